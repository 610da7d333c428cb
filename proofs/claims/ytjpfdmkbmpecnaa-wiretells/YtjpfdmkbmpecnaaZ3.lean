/- Several texts in one: Package wire and the document's: sizes, bodies, requests. Package wire and the document's: lists. Package wire and the document's: a list's items. The laws of records: what they share. The law WireTells. -/
import Derived.Test.YtjpfdmkbmpecnaaZ2
import Derived.Laws.Small
namespace Go.Proofs.Ytjpfdmkbmpecnaa
open Go.RowKit
set_option maxRecDepth 100000 in
theorem issrv_yes (k : Nat) (h1 : k ≥ 1) (h2 : k ≤ 3) (w0 : World) :
    Calls Try.prog 27 #[iN k] w0 fun e w' => e = .returned (.bool true) ∧ Below w0.heap.size w0 w' := by
  refine enter_fr Try.func27 rfl Try.ntmps27 (by simp) fun ac (FF : Fr 9 ac [(0, iN k)]) => ?_
  have MM := MemS.start w0
  refine wp_seq (rg_seq FF MM [o_] [0, 2] (fun Kt => Kt [(2, .bool false), (0, iN k)] []) (by kernel_rfl) (fun _ => by kernel_rfl) (fun ac1 wd1 FF1 MM1 => then_n ?_))
  refine wp_seq (rg_seq FF1 MM1 [o_, w_ 2, o_, o_, w_ 2, o_, o_] [2] (fun Kt => k ≥ 1 ∧ k ≤ 3 ∧ Kt [(2, .bool true)] []) (by kernel_rfl) (fun _ => by kernel_rfl) (⟨h1, h2, fun ac2 wd2 FF2 MM2 => then_n ?_⟩))
  refine wp_ret ?_
  repeat first | refine then_ret ?_ | refine inb_ret ?_
  exact (ret_fr FF2 0 Try.results27 rfl ⟨rfl, MM2.below⟩)
set_option maxRecDepth 100000 in
theorem issrv_lo (z : Int) (hz : z < 1) (w0 : World) :
    Calls Try.prog 27 #[.int .i64 z] w0 fun e w' => e = .returned (.bool false) ∧ Below w0.heap.size w0 w' := by
  refine enter_fr Try.func27 rfl Try.ntmps27 (by simp) fun ac (FF : Fr 9 ac [(0, .int .i64 (z : Int))]) => ?_
  have MM := MemS.start w0
  refine wp_seq (rg_seq FF MM [o_] [0, 2] (fun Kt => Kt [(2, .bool false), (0, .int .i64 (z : Int))] []) (by kernel_rfl) (fun _ => by kernel_rfl) (fun ac1 wd1 FF1 MM1 => then_n ?_))
  refine wp_seq (rg_seq FF1 MM1 [o_, u_ 4 (.bool false), o_, o_, o_, o_, o_] [2] (fun Kt => Value.bool (decide (z ≥ ((1 : Nat) : Int))) = .bool false ∧ Kt [(2, .bool false)] []) (by kernel_rfl) (fun _ => by kernel_rfl) (⟨(dec_f (by omega)), fun ac2 wd2 FF2 MM2 => then_n ?_⟩))
  refine wp_ret ?_
  repeat first | refine then_ret ?_ | refine inb_ret ?_
  exact (ret_fr FF2 0 Try.results27 rfl ⟨rfl, MM2.below⟩)
set_option maxRecDepth 100000 in
theorem issrv_hi (z : Int) (hz : z > 3) (w0 : World) :
    Calls Try.prog 27 #[.int .i64 z] w0 fun e w' => e = .returned (.bool false) ∧ Below w0.heap.size w0 w' := by
  refine enter_fr Try.func27 rfl Try.ntmps27 (by simp) fun ac (FF : Fr 9 ac [(0, .int .i64 (z : Int))]) => ?_
  have MM := MemS.start w0
  refine wp_seq (rg_seq FF MM [o_] [0, 2] (fun Kt => Kt [(2, .bool false), (0, .int .i64 (z : Int))] []) (by kernel_rfl) (fun _ => by kernel_rfl) (fun ac1 wd1 FF1 MM1 => then_n ?_))
  refine wp_seq (rg_seq FF1 MM1 [o_, w_ 6, o_, o_, u_ 4 (.bool false), o_, o_] [2] (fun Kt => z ≥ ((1 : Nat) : Int) ∧ Value.bool (decide (z ≤ ((3 : Nat) : Int))) = .bool false ∧ Kt [(2, .bool false)] []) (by kernel_rfl) (fun _ => by kernel_rfl) (⟨(by omega), (dec_f (by omega)), fun ac2 wd2 FF2 MM2 => then_n ?_⟩))
  refine wp_ret ?_
  repeat first | refine then_ret ?_ | refine inb_ret ?_
  exact (ret_fr FF2 0 Try.results27 rfl ⟨rfl, MM2.below⟩)
theorem issrv_no (z : Int) (hz : z < 1 ∨ z > 3) (w : World) : Calls Try.prog 27 #[.int .i64 z] w fun e w' => e = .returned (.bool false) ∧ Below w.heap.size w w' := by
  by_cases h : z < 1
  · exact issrv_lo z h w
  · exact issrv_hi z (by omega) w
set_option maxRecDepth 100000 in
theorem maysz_yes (k : Nat) (h1 : k ≥ 1) (h2 : k ≤ 256) (w0 : World) :
    Calls Try.prog 29 #[iN k] w0 fun e w' => e = .returned (.bool true) ∧ Below w0.heap.size w0 w' := by
  refine enter_fr Try.func29 rfl Try.ntmps29 (by simp) fun ac (FF : Fr 9 ac [(0, iN k)]) => ?_
  have MM := MemS.start w0
  refine wp_seq (rg_seq FF MM [o_] [0, 2] (fun Kt => Kt [(2, .bool false), (0, iN k)] []) (by kernel_rfl) (fun _ => by kernel_rfl) (fun ac1 wd1 FF1 MM1 => then_n ?_))
  refine wp_seq (rg_seq FF1 MM1 [o_, w_ 2, o_, o_, w_ 2, o_, o_] [2] (fun Kt => k ≥ 1 ∧ k ≤ 256 ∧ Kt [(2, .bool true)] []) (by kernel_rfl) (fun _ => by kernel_rfl) (⟨h1, h2, fun ac2 wd2 FF2 MM2 => then_n ?_⟩))
  refine wp_ret ?_
  repeat first | refine then_ret ?_ | refine inb_ret ?_
  exact (ret_fr FF2 0 Try.results29 rfl ⟨rfl, MM2.below⟩)
set_option maxRecDepth 100000 in
theorem maysz_lo (z : Int) (hz : z < 1) (w0 : World) :
    Calls Try.prog 29 #[.int .i64 z] w0 fun e w' => e = .returned (.bool false) ∧ Below w0.heap.size w0 w' := by
  refine enter_fr Try.func29 rfl Try.ntmps29 (by simp) fun ac (FF : Fr 9 ac [(0, .int .i64 (z : Int))]) => ?_
  have MM := MemS.start w0
  refine wp_seq (rg_seq FF MM [o_] [0, 2] (fun Kt => Kt [(2, .bool false), (0, .int .i64 (z : Int))] []) (by kernel_rfl) (fun _ => by kernel_rfl) (fun ac1 wd1 FF1 MM1 => then_n ?_))
  refine wp_seq (rg_seq FF1 MM1 [o_, u_ 4 (.bool false), o_, o_, o_, o_, o_] [2] (fun Kt => Value.bool (decide (z ≥ ((1 : Nat) : Int))) = .bool false ∧ Kt [(2, .bool false)] []) (by kernel_rfl) (fun _ => by kernel_rfl) (⟨(dec_f (by omega)), fun ac2 wd2 FF2 MM2 => then_n ?_⟩))
  refine wp_ret ?_
  repeat first | refine then_ret ?_ | refine inb_ret ?_
  exact (ret_fr FF2 0 Try.results29 rfl ⟨rfl, MM2.below⟩)
set_option maxRecDepth 100000 in
theorem maysz_hi (z : Int) (hz : z > 256) (w0 : World) :
    Calls Try.prog 29 #[.int .i64 z] w0 fun e w' => e = .returned (.bool false) ∧ Below w0.heap.size w0 w' := by
  refine enter_fr Try.func29 rfl Try.ntmps29 (by simp) fun ac (FF : Fr 9 ac [(0, .int .i64 (z : Int))]) => ?_
  have MM := MemS.start w0
  refine wp_seq (rg_seq FF MM [o_] [0, 2] (fun Kt => Kt [(2, .bool false), (0, .int .i64 (z : Int))] []) (by kernel_rfl) (fun _ => by kernel_rfl) (fun ac1 wd1 FF1 MM1 => then_n ?_))
  refine wp_seq (rg_seq FF1 MM1 [o_, w_ 6, o_, o_, u_ 4 (.bool false), o_, o_] [2] (fun Kt => z ≥ ((1 : Nat) : Int) ∧ Value.bool (decide (z ≤ ((256 : Nat) : Int))) = .bool false ∧ Kt [(2, .bool false)] []) (by kernel_rfl) (fun _ => by kernel_rfl) (⟨(by omega), (dec_f (by omega)), fun ac2 wd2 FF2 MM2 => then_n ?_⟩))
  refine wp_ret ?_
  repeat first | refine then_ret ?_ | refine inb_ret ?_
  exact (ret_fr FF2 0 Try.results29 rfl ⟨rfl, MM2.below⟩)
theorem maysz_no (z : Int) (hz : z < 1 ∨ z > 256) (w : World) : Calls Try.prog 29 #[.int .i64 z] w fun e w' => e = .returned (.bool false) ∧ Below w.heap.size w w' := by
  by_cases h : z < 1
  · exact maysz_lo z h w
  · exact maysz_hi z (by omega) w
set_option maxRecDepth 100000 in
theorem left_any (k : Nat) (hk : k ≤ 3) (w0 : World) :
    Calls Try.prog 28 #[iN k] w0 fun e w' => e = .returned (iN (4 - k)) ∧ Below w0.heap.size w0 w' := by
  refine enter_fr Try.func28 rfl Try.ntmps28 (by simp) fun ac (FF : Fr 5 ac [(0, iN k)]) => ?_
  have MM := MemS.start w0
  refine wp_seq (rg_seq FF MM [o_] [0, 2] (fun Kt => Kt [(2, iN 0), (0, iN k)] []) (by kernel_rfl) (fun _ => by kernel_rfl) (fun ac1 wd1 FF1 MM1 => then_n ?_))
  refine wp_seq (rg_seq FF1 MM1 [o_, o_, o_] [2] (fun Kt => k ≤ 4 ∧ 4 - k < 9223372036854775808 ∧ Kt [(2, iN (4 - k))] []) (by kernel_rfl) (fun _ => by kernel_rfl) (⟨(by omega), (by omega), fun ac2 wd2 FF2 MM2 => then_n ?_⟩))
  refine wp_ret ?_
  repeat first | refine then_ret ?_ | refine inb_ret ?_
  exact (ret_fr FF2 0 Try.results28 rfl ⟨rfl, MM2.below⟩)
set_option maxRecDepth 100000 in
theorem onion_1  (w0 : World) :
    Calls Try.prog 16 #[iN 1] w0 fun e w' => e = .returned (iN 196) ∧ Below w0.heap.size w0 w' := by
  refine enter_fr Try.func16 rfl Try.ntmps16 (by simp) fun ac (FF : Fr 10 ac [(0, iN 1)]) => ?_
  have MM := MemS.start w0
  refine wp_seq (rg_seq FF MM [o_] [0, 2] (fun Kt => Kt [(2, iN 0), (0, iN 1)] []) (by kernel_rfl) (fun _ => by kernel_rfl) (fun ac1 wd1 FF1 MM1 => then_n ?_))
  refine wp_seq ?_
  refine wp_seq (rg_seq FF1 MM1 [o_, t_ (.bool true), o_] [2, 0, 5] (fun Kt => CallP Try.prog 27 [iN 1] [] (.bool true) ∧ Kt [(5, .bool false), (2, iN 0), (0, iN 1)] []) (by kernel_rfl) (fun _ => by kernel_rfl) (⟨(callP_of en_issrv (issrv_yes 1 (by omega) (by omega)) _), fun ac2 wd2 FF2 MM2 => then_n ?_⟩))
  refine wp_cond_false (FF2.ev 0 rfl) ?_
  refine wp_skip ?_
  refine then_n ?_
  refine wp_seq (rg_seq FF2 MM2 [o_, t_ (iN 3), o_, o_, o_] [2, 0] (fun Kt => CallP Try.prog 28 [iN 1] [] (iN 3) ∧ 3 * 48 < 9223372036854775808 ∧ 52 + 144 < 9223372036854775808 ∧ Kt [(2, iN 196), (0, iN 1)] []) (by kernel_rfl) (fun _ => by kernel_rfl) (⟨(callP_of en_left (left_any 1 (by decide)) _), (by decide), (by decide), fun ac3 wd3 FF3 MM3 => then_n ?_⟩))
  refine wp_ret ?_
  repeat first | refine then_ret ?_ | refine inb_ret ?_
  exact (ret_fr FF3 0 Try.results16 rfl ⟨rfl, MM3.below⟩)
set_option maxRecDepth 100000 in
theorem ronion_1  (w0 : World) :
    Calls Try.prog 17 #[iN 1] w0 fun e w' => e = .returned (iN 196) ∧ Below w0.heap.size w0 w' := by
  refine enter_fr Try.func17 rfl Try.ntmps17 (by simp) fun ac (FF : Fr 10 ac [(0, iN 1)]) => ?_
  have MM := MemS.start w0
  refine wp_seq (rg_seq FF MM [o_] [0, 2] (fun Kt => Kt [(2, iN 0), (0, iN 1)] []) (by kernel_rfl) (fun _ => by kernel_rfl) (fun ac1 wd1 FF1 MM1 => then_n ?_))
  refine wp_seq ?_
  refine wp_seq (rg_seq FF1 MM1 [o_] [2, 3] (fun Kt => Kt [(3, iN 1), (2, iN 0)] []) (by kernel_rfl) (fun _ => by kernel_rfl) (fun ac2 wd2 FF2 MM2 => then_n ?_))
  refine wp_block ?_
  refine wp_seq (rg_seq FF2 MM2 [w_ 2, o_] [3, 2, 4] (fun Kt => 1 = 1 ∧ Kt [(4, .bool true), (3, iN 1), (2, iN 0)] []) (by kernel_rfl) (fun _ => by kernel_rfl) (⟨(by decide), fun ac3 wd3 FF3 MM3 => then_n ?_⟩))
  refine wp_cond_true (FF3.ev 0 rfl) ?_
  refine wp_seq (rg_seq FF3 MM3 [o_] [3, 2] (fun Kt => Kt [(2, iN 196), (3, iN 1)] []) (by kernel_rfl) (fun _ => by kernel_rfl) (fun ac4 wd4 FF4 MM4 => then_n ?_))
  refine wp_ret ?_
  repeat first | refine then_ret ?_ | refine inb_ret ?_
  exact (ret_fr FF4 0 Try.results17 rfl ⟨rfl, MM4.below⟩)
set_option maxRecDepth 100000 in
theorem onion_2  (w0 : World) :
    Calls Try.prog 16 #[iN 2] w0 fun e w' => e = .returned (iN 148) ∧ Below w0.heap.size w0 w' := by
  refine enter_fr Try.func16 rfl Try.ntmps16 (by simp) fun ac (FF : Fr 10 ac [(0, iN 2)]) => ?_
  have MM := MemS.start w0
  refine wp_seq (rg_seq FF MM [o_] [0, 2] (fun Kt => Kt [(2, iN 0), (0, iN 2)] []) (by kernel_rfl) (fun _ => by kernel_rfl) (fun ac1 wd1 FF1 MM1 => then_n ?_))
  refine wp_seq ?_
  refine wp_seq (rg_seq FF1 MM1 [o_, t_ (.bool true), o_] [2, 0, 5] (fun Kt => CallP Try.prog 27 [iN 2] [] (.bool true) ∧ Kt [(5, .bool false), (2, iN 0), (0, iN 2)] []) (by kernel_rfl) (fun _ => by kernel_rfl) (⟨(callP_of en_issrv (issrv_yes 2 (by omega) (by omega)) _), fun ac2 wd2 FF2 MM2 => then_n ?_⟩))
  refine wp_cond_false (FF2.ev 0 rfl) ?_
  refine wp_skip ?_
  refine then_n ?_
  refine wp_seq (rg_seq FF2 MM2 [o_, t_ (iN 2), o_, o_, o_] [2, 0] (fun Kt => CallP Try.prog 28 [iN 2] [] (iN 2) ∧ 2 * 48 < 9223372036854775808 ∧ 52 + 96 < 9223372036854775808 ∧ Kt [(2, iN 148), (0, iN 2)] []) (by kernel_rfl) (fun _ => by kernel_rfl) (⟨(callP_of en_left (left_any 2 (by decide)) _), (by decide), (by decide), fun ac3 wd3 FF3 MM3 => then_n ?_⟩))
  refine wp_ret ?_
  repeat first | refine then_ret ?_ | refine inb_ret ?_
  exact (ret_fr FF3 0 Try.results16 rfl ⟨rfl, MM3.below⟩)
set_option maxRecDepth 100000 in
theorem ronion_2  (w0 : World) :
    Calls Try.prog 17 #[iN 2] w0 fun e w' => e = .returned (iN 148) ∧ Below w0.heap.size w0 w' := by
  refine enter_fr Try.func17 rfl Try.ntmps17 (by simp) fun ac (FF : Fr 10 ac [(0, iN 2)]) => ?_
  have MM := MemS.start w0
  refine wp_seq (rg_seq FF MM [o_] [0, 2] (fun Kt => Kt [(2, iN 0), (0, iN 2)] []) (by kernel_rfl) (fun _ => by kernel_rfl) (fun ac1 wd1 FF1 MM1 => then_n ?_))
  refine wp_seq ?_
  refine wp_seq (rg_seq FF1 MM1 [o_] [2, 3] (fun Kt => Kt [(3, iN 2), (2, iN 0)] []) (by kernel_rfl) (fun _ => by kernel_rfl) (fun ac2 wd2 FF2 MM2 => then_n ?_))
  refine wp_block ?_
  refine wp_seq (rg_seq FF2 MM2 [w_ 3, o_] [3, 2, 4] (fun Kt => ¬ (2 = 1) ∧ Kt [(4, .bool false), (3, iN 2), (2, iN 0)] []) (by kernel_rfl) (fun _ => by kernel_rfl) (⟨(by decide), fun ac3 wd3 FF3 MM3 => then_n ?_⟩))
  refine wp_cond_false (FF3.ev 0 rfl) ?_
  refine wp_seq (rg_seq FF3 MM3 [w_ 2, o_] [3, 2, 6] (fun Kt => 2 = 2 ∧ Kt [(6, .bool true), (3, iN 2), (2, iN 0)] []) (by kernel_rfl) (fun _ => by kernel_rfl) (⟨(by decide), fun ac4 wd4 FF4 MM4 => then_n ?_⟩))
  refine wp_cond_true (FF4.ev 0 rfl) ?_
  refine wp_seq (rg_seq FF4 MM4 [o_] [3, 2] (fun Kt => Kt [(2, iN 148), (3, iN 2)] []) (by kernel_rfl) (fun _ => by kernel_rfl) (fun ac5 wd5 FF5 MM5 => then_n ?_))
  refine wp_ret ?_
  repeat first | refine then_ret ?_ | refine inb_ret ?_
  exact (ret_fr FF5 0 Try.results17 rfl ⟨rfl, MM5.below⟩)
set_option maxRecDepth 100000 in
theorem onion_3  (w0 : World) :
    Calls Try.prog 16 #[iN 3] w0 fun e w' => e = .returned (iN 100) ∧ Below w0.heap.size w0 w' := by
  refine enter_fr Try.func16 rfl Try.ntmps16 (by simp) fun ac (FF : Fr 10 ac [(0, iN 3)]) => ?_
  have MM := MemS.start w0
  refine wp_seq (rg_seq FF MM [o_] [0, 2] (fun Kt => Kt [(2, iN 0), (0, iN 3)] []) (by kernel_rfl) (fun _ => by kernel_rfl) (fun ac1 wd1 FF1 MM1 => then_n ?_))
  refine wp_seq ?_
  refine wp_seq (rg_seq FF1 MM1 [o_, t_ (.bool true), o_] [2, 0, 5] (fun Kt => CallP Try.prog 27 [iN 3] [] (.bool true) ∧ Kt [(5, .bool false), (2, iN 0), (0, iN 3)] []) (by kernel_rfl) (fun _ => by kernel_rfl) (⟨(callP_of en_issrv (issrv_yes 3 (by omega) (by omega)) _), fun ac2 wd2 FF2 MM2 => then_n ?_⟩))
  refine wp_cond_false (FF2.ev 0 rfl) ?_
  refine wp_skip ?_
  refine then_n ?_
  refine wp_seq (rg_seq FF2 MM2 [o_, t_ (iN 1), o_, o_, o_] [2, 0] (fun Kt => CallP Try.prog 28 [iN 3] [] (iN 1) ∧ 1 * 48 < 9223372036854775808 ∧ 52 + 48 < 9223372036854775808 ∧ Kt [(2, iN 100), (0, iN 3)] []) (by kernel_rfl) (fun _ => by kernel_rfl) (⟨(callP_of en_left (left_any 3 (by decide)) _), (by decide), (by decide), fun ac3 wd3 FF3 MM3 => then_n ?_⟩))
  refine wp_ret ?_
  repeat first | refine then_ret ?_ | refine inb_ret ?_
  exact (ret_fr FF3 0 Try.results16 rfl ⟨rfl, MM3.below⟩)
set_option maxRecDepth 100000 in
theorem ronion_3  (w0 : World) :
    Calls Try.prog 17 #[iN 3] w0 fun e w' => e = .returned (iN 100) ∧ Below w0.heap.size w0 w' := by
  refine enter_fr Try.func17 rfl Try.ntmps17 (by simp) fun ac (FF : Fr 10 ac [(0, iN 3)]) => ?_
  have MM := MemS.start w0
  refine wp_seq (rg_seq FF MM [o_] [0, 2] (fun Kt => Kt [(2, iN 0), (0, iN 3)] []) (by kernel_rfl) (fun _ => by kernel_rfl) (fun ac1 wd1 FF1 MM1 => then_n ?_))
  refine wp_seq ?_
  refine wp_seq (rg_seq FF1 MM1 [o_] [2, 3] (fun Kt => Kt [(3, iN 3), (2, iN 0)] []) (by kernel_rfl) (fun _ => by kernel_rfl) (fun ac2 wd2 FF2 MM2 => then_n ?_))
  refine wp_block ?_
  refine wp_seq (rg_seq FF2 MM2 [w_ 3, o_] [3, 2, 4] (fun Kt => ¬ (3 = 1) ∧ Kt [(4, .bool false), (3, iN 3), (2, iN 0)] []) (by kernel_rfl) (fun _ => by kernel_rfl) (⟨(by decide), fun ac3 wd3 FF3 MM3 => then_n ?_⟩))
  refine wp_cond_false (FF3.ev 0 rfl) ?_
  refine wp_seq (rg_seq FF3 MM3 [w_ 3, o_] [3, 2, 6] (fun Kt => ¬ (3 = 2) ∧ Kt [(6, .bool false), (3, iN 3), (2, iN 0)] []) (by kernel_rfl) (fun _ => by kernel_rfl) (⟨(by decide), fun ac4 wd4 FF4 MM4 => then_n ?_⟩))
  refine wp_cond_false (FF4.ev 0 rfl) ?_
  refine wp_seq (rg_seq FF4 MM4 [w_ 2, o_] [3, 2, 8] (fun Kt => 3 = 3 ∧ Kt [(8, .bool true), (3, iN 3), (2, iN 0)] []) (by kernel_rfl) (fun _ => by kernel_rfl) (⟨(by decide), fun ac5 wd5 FF5 MM5 => then_n ?_⟩))
  refine wp_cond_true (FF5.ev 0 rfl) ?_
  refine wp_seq (rg_seq FF5 MM5 [o_] [3, 2] (fun Kt => Kt [(2, iN 100), (3, iN 3)] []) (by kernel_rfl) (fun _ => by kernel_rfl) (fun ac6 wd6 FF6 MM6 => then_n ?_))
  refine wp_ret ?_
  repeat first | refine then_ret ?_ | refine inb_ret ?_
  exact (ret_fr FF6 0 Try.results17 rfl ⟨rfl, MM6.below⟩)
set_option maxRecDepth 100000 in
theorem onion_no (z : Int) (hz : z < 1 ∨ z > 3) (w0 : World) :
    Calls Try.prog 16 #[.int .i64 z] w0 fun e w' => e = .returned (iN 0) ∧ Below w0.heap.size w0 w' := by
  refine enter_fr Try.func16 rfl Try.ntmps16 (by simp) fun ac (FF : Fr 10 ac [(0, .int .i64 (z : Int))]) => ?_
  have MM := MemS.start w0
  refine wp_seq (rg_seq FF MM [o_] [0, 2] (fun Kt => Kt [(2, iN 0), (0, .int .i64 (z : Int))] []) (by kernel_rfl) (fun _ => by kernel_rfl) (fun ac1 wd1 FF1 MM1 => then_n ?_))
  refine wp_seq ?_
  refine wp_seq (rg_seq FF1 MM1 [o_, t_ (.bool false), o_] [2, 0, 5] (fun Kt => CallP Try.prog 27 [.int .i64 (z : Int)] [] (.bool false) ∧ Kt [(5, .bool true), (2, iN 0), (0, .int .i64 (z : Int))] []) (by kernel_rfl) (fun _ => by kernel_rfl) (⟨(callP_of en_issrv (issrv_no z hz) _), fun ac2 wd2 FF2 MM2 => then_n ?_⟩))
  refine wp_cond_true (FF2.ev 0 rfl) ?_
  refine wp_seq (rg_seq FF2 MM2 [o_] [2, 0] (fun Kt => Kt [(2, iN 0), (0, .int .i64 (z : Int))] []) (by kernel_rfl) (fun _ => by kernel_rfl) (fun ac3 wd3 FF3 MM3 => then_n ?_))
  refine wp_ret ?_
  repeat first | refine then_ret ?_ | refine inb_ret ?_
  exact (ret_fr FF3 0 Try.results16 rfl ⟨rfl, MM3.below⟩)
set_option maxRecDepth 100000 in
theorem ronion_no (z : Int) (hz : z < 1 ∨ z > 3) (w0 : World) :
    Calls Try.prog 17 #[.int .i64 z] w0 fun e w' => e = .returned (iN 0) ∧ Below w0.heap.size w0 w' := by
  refine enter_fr Try.func17 rfl Try.ntmps17 (by simp) fun ac (FF : Fr 10 ac [(0, .int .i64 (z : Int))]) => ?_
  have MM := MemS.start w0
  refine wp_seq (rg_seq FF MM [o_] [0, 2] (fun Kt => Kt [(2, iN 0), (0, .int .i64 (z : Int))] []) (by kernel_rfl) (fun _ => by kernel_rfl) (fun ac1 wd1 FF1 MM1 => then_n ?_))
  refine wp_seq ?_
  refine wp_seq (rg_seq FF1 MM1 [o_] [2, 3] (fun Kt => Kt [(3, .int .i64 (z : Int)), (2, iN 0)] []) (by kernel_rfl) (fun _ => by kernel_rfl) (fun ac2 wd2 FF2 MM2 => then_n ?_))
  refine wp_block ?_
  refine wp_seq (rg_seq FF2 MM2 [u_ 4 (.bool false), o_] [3, 2, 4] (fun Kt => Value.bool (decide (z = ((1 : Nat) : Int))) = .bool false ∧ Kt [(4, .bool false), (3, .int .i64 (z : Int)), (2, iN 0)] []) (by kernel_rfl) (fun _ => by kernel_rfl) (⟨(dec_f (by omega)), fun ac3 wd3 FF3 MM3 => then_n ?_⟩))
  refine wp_cond_false (FF3.ev 0 rfl) ?_
  refine wp_seq (rg_seq FF3 MM3 [u_ 4 (.bool false), o_] [3, 2, 6] (fun Kt => Value.bool (decide (z = ((2 : Nat) : Int))) = .bool false ∧ Kt [(6, .bool false), (3, .int .i64 (z : Int)), (2, iN 0)] []) (by kernel_rfl) (fun _ => by kernel_rfl) (⟨(dec_f (by omega)), fun ac4 wd4 FF4 MM4 => then_n ?_⟩))
  refine wp_cond_false (FF4.ev 0 rfl) ?_
  refine wp_seq (rg_seq FF4 MM4 [u_ 4 (.bool false), o_] [3, 2, 8] (fun Kt => Value.bool (decide (z = ((3 : Nat) : Int))) = .bool false ∧ Kt [(8, .bool false), (3, .int .i64 (z : Int)), (2, iN 0)] []) (by kernel_rfl) (fun _ => by kernel_rfl) (⟨(dec_f (by omega)), fun ac5 wd5 FF5 MM5 => then_n ?_⟩))
  refine wp_cond_false (FF5.ev 0 rfl) ?_
  refine wp_skip ?_
  refine inb_n ?_
  refine then_n ?_
  refine wp_seq (rg_seq FF5 MM5 [o_] [3, 2] (fun Kt => Kt [(2, iN 0), (3, .int .i64 (z : Int))] []) (by kernel_rfl) (fun _ => by kernel_rfl) (fun ac6 wd6 FF6 MM6 => then_n ?_))
  refine wp_ret ?_
  repeat first | refine then_ret ?_ | refine inb_ret ?_
  exact (ret_fr FF6 0 Try.results17 rfl ⟨rfl, MM6.below⟩)
theorem onion_any (z : Int) (w : World) : Calls Try.prog 16 #[.int .i64 z] w fun e w' => e = .returned (iN (onionZ z)) ∧ Below w.heap.size w w' := by
  by_cases hz : z < 1 ∨ z > 3
  · rw [onionZ_no hz]; exact onion_no z hz w
  · have h3 : z = 1 ∨ z = 2 ∨ z = 3 := by omega
    rcases h3 with rfl | rfl | rfl
    · exact onion_1 w
    · exact onion_2 w
    · exact onion_3 w
theorem ronion_any (z : Int) (w : World) : Calls Try.prog 17 #[.int .i64 z] w fun e w' => e = .returned (iN (onionZ z)) ∧ Below w.heap.size w w' := by
  by_cases hz : z < 1 ∨ z > 3
  · rw [onionZ_no hz]; exact ronion_no z hz w
  · have h3 : z = 1 ∨ z = 2 ∨ z = 3 := by omega
    rcases h3 with rfl | rfl | rfl
    · exact ronion_1 w
    · exact ronion_2 w
    · exact ronion_3 w
set_option maxRecDepth 100000 in
theorem reply_1  (w0 : World) :
    Calls Try.prog 18 #[iN 1] w0 fun e w' => e = .returned (iN 84) ∧ Below w0.heap.size w0 w' := by
  refine enter_fr Try.func18 rfl Try.ntmps18 (by simp) fun ac (FF : Fr 10 ac [(0, iN 1)]) => ?_
  have MM := MemS.start w0
  refine wp_seq (rg_seq FF MM [o_] [0, 2] (fun Kt => Kt [(2, iN 0), (0, iN 1)] []) (by kernel_rfl) (fun _ => by kernel_rfl) (fun ac1 wd1 FF1 MM1 => then_n ?_))
  refine wp_seq ?_
  refine wp_seq (rg_seq FF1 MM1 [o_, t_ (.bool true), o_] [2, 0, 5] (fun Kt => CallP Try.prog 27 [iN 1] [] (.bool true) ∧ Kt [(5, .bool false), (2, iN 0), (0, iN 1)] []) (by kernel_rfl) (fun _ => by kernel_rfl) (⟨(callP_of en_issrv (issrv_yes 1 (by omega) (by omega)) _), fun ac2 wd2 FF2 MM2 => then_n ?_⟩))
  refine wp_cond_false (FF2.ev 0 rfl) ?_
  refine wp_skip ?_
  refine then_n ?_
  refine wp_seq (rg_seq FF2 MM2 [o_, t_ (iN 3), o_, o_, o_] [2, 0] (fun Kt => CallP Try.prog 28 [iN 1] [] (iN 3) ∧ 3 * 16 < 9223372036854775808 ∧ 36 + 48 < 9223372036854775808 ∧ Kt [(2, iN 84), (0, iN 1)] []) (by kernel_rfl) (fun _ => by kernel_rfl) (⟨(callP_of en_left (left_any 1 (by decide)) _), (by decide), (by decide), fun ac3 wd3 FF3 MM3 => then_n ?_⟩))
  refine wp_ret ?_
  repeat first | refine then_ret ?_ | refine inb_ret ?_
  exact (ret_fr FF3 0 Try.results18 rfl ⟨rfl, MM3.below⟩)
set_option maxRecDepth 100000 in
theorem rreply_1  (w0 : World) :
    Calls Try.prog 19 #[iN 1] w0 fun e w' => e = .returned (iN 84) ∧ Below w0.heap.size w0 w' := by
  refine enter_fr Try.func19 rfl Try.ntmps19 (by simp) fun ac (FF : Fr 10 ac [(0, iN 1)]) => ?_
  have MM := MemS.start w0
  refine wp_seq (rg_seq FF MM [o_] [0, 2] (fun Kt => Kt [(2, iN 0), (0, iN 1)] []) (by kernel_rfl) (fun _ => by kernel_rfl) (fun ac1 wd1 FF1 MM1 => then_n ?_))
  refine wp_seq ?_
  refine wp_seq (rg_seq FF1 MM1 [o_] [2, 3] (fun Kt => Kt [(3, iN 1), (2, iN 0)] []) (by kernel_rfl) (fun _ => by kernel_rfl) (fun ac2 wd2 FF2 MM2 => then_n ?_))
  refine wp_block ?_
  refine wp_seq (rg_seq FF2 MM2 [w_ 2, o_] [3, 2, 4] (fun Kt => 1 = 1 ∧ Kt [(4, .bool true), (3, iN 1), (2, iN 0)] []) (by kernel_rfl) (fun _ => by kernel_rfl) (⟨(by decide), fun ac3 wd3 FF3 MM3 => then_n ?_⟩))
  refine wp_cond_true (FF3.ev 0 rfl) ?_
  refine wp_seq (rg_seq FF3 MM3 [o_] [3, 2] (fun Kt => Kt [(2, iN 84), (3, iN 1)] []) (by kernel_rfl) (fun _ => by kernel_rfl) (fun ac4 wd4 FF4 MM4 => then_n ?_))
  refine wp_ret ?_
  repeat first | refine then_ret ?_ | refine inb_ret ?_
  exact (ret_fr FF4 0 Try.results19 rfl ⟨rfl, MM4.below⟩)
set_option maxRecDepth 100000 in
theorem reply_2  (w0 : World) :
    Calls Try.prog 18 #[iN 2] w0 fun e w' => e = .returned (iN 68) ∧ Below w0.heap.size w0 w' := by
  refine enter_fr Try.func18 rfl Try.ntmps18 (by simp) fun ac (FF : Fr 10 ac [(0, iN 2)]) => ?_
  have MM := MemS.start w0
  refine wp_seq (rg_seq FF MM [o_] [0, 2] (fun Kt => Kt [(2, iN 0), (0, iN 2)] []) (by kernel_rfl) (fun _ => by kernel_rfl) (fun ac1 wd1 FF1 MM1 => then_n ?_))
  refine wp_seq ?_
  refine wp_seq (rg_seq FF1 MM1 [o_, t_ (.bool true), o_] [2, 0, 5] (fun Kt => CallP Try.prog 27 [iN 2] [] (.bool true) ∧ Kt [(5, .bool false), (2, iN 0), (0, iN 2)] []) (by kernel_rfl) (fun _ => by kernel_rfl) (⟨(callP_of en_issrv (issrv_yes 2 (by omega) (by omega)) _), fun ac2 wd2 FF2 MM2 => then_n ?_⟩))
  refine wp_cond_false (FF2.ev 0 rfl) ?_
  refine wp_skip ?_
  refine then_n ?_
  refine wp_seq (rg_seq FF2 MM2 [o_, t_ (iN 2), o_, o_, o_] [2, 0] (fun Kt => CallP Try.prog 28 [iN 2] [] (iN 2) ∧ 2 * 16 < 9223372036854775808 ∧ 36 + 32 < 9223372036854775808 ∧ Kt [(2, iN 68), (0, iN 2)] []) (by kernel_rfl) (fun _ => by kernel_rfl) (⟨(callP_of en_left (left_any 2 (by decide)) _), (by decide), (by decide), fun ac3 wd3 FF3 MM3 => then_n ?_⟩))
  refine wp_ret ?_
  repeat first | refine then_ret ?_ | refine inb_ret ?_
  exact (ret_fr FF3 0 Try.results18 rfl ⟨rfl, MM3.below⟩)
set_option maxRecDepth 100000 in
theorem rreply_2  (w0 : World) :
    Calls Try.prog 19 #[iN 2] w0 fun e w' => e = .returned (iN 68) ∧ Below w0.heap.size w0 w' := by
  refine enter_fr Try.func19 rfl Try.ntmps19 (by simp) fun ac (FF : Fr 10 ac [(0, iN 2)]) => ?_
  have MM := MemS.start w0
  refine wp_seq (rg_seq FF MM [o_] [0, 2] (fun Kt => Kt [(2, iN 0), (0, iN 2)] []) (by kernel_rfl) (fun _ => by kernel_rfl) (fun ac1 wd1 FF1 MM1 => then_n ?_))
  refine wp_seq ?_
  refine wp_seq (rg_seq FF1 MM1 [o_] [2, 3] (fun Kt => Kt [(3, iN 2), (2, iN 0)] []) (by kernel_rfl) (fun _ => by kernel_rfl) (fun ac2 wd2 FF2 MM2 => then_n ?_))
  refine wp_block ?_
  refine wp_seq (rg_seq FF2 MM2 [w_ 3, o_] [3, 2, 4] (fun Kt => ¬ (2 = 1) ∧ Kt [(4, .bool false), (3, iN 2), (2, iN 0)] []) (by kernel_rfl) (fun _ => by kernel_rfl) (⟨(by decide), fun ac3 wd3 FF3 MM3 => then_n ?_⟩))
  refine wp_cond_false (FF3.ev 0 rfl) ?_
  refine wp_seq (rg_seq FF3 MM3 [w_ 2, o_] [3, 2, 6] (fun Kt => 2 = 2 ∧ Kt [(6, .bool true), (3, iN 2), (2, iN 0)] []) (by kernel_rfl) (fun _ => by kernel_rfl) (⟨(by decide), fun ac4 wd4 FF4 MM4 => then_n ?_⟩))
  refine wp_cond_true (FF4.ev 0 rfl) ?_
  refine wp_seq (rg_seq FF4 MM4 [o_] [3, 2] (fun Kt => Kt [(2, iN 68), (3, iN 2)] []) (by kernel_rfl) (fun _ => by kernel_rfl) (fun ac5 wd5 FF5 MM5 => then_n ?_))
  refine wp_ret ?_
  repeat first | refine then_ret ?_ | refine inb_ret ?_
  exact (ret_fr FF5 0 Try.results19 rfl ⟨rfl, MM5.below⟩)
set_option maxRecDepth 100000 in
theorem reply_3  (w0 : World) :
    Calls Try.prog 18 #[iN 3] w0 fun e w' => e = .returned (iN 52) ∧ Below w0.heap.size w0 w' := by
  refine enter_fr Try.func18 rfl Try.ntmps18 (by simp) fun ac (FF : Fr 10 ac [(0, iN 3)]) => ?_
  have MM := MemS.start w0
  refine wp_seq (rg_seq FF MM [o_] [0, 2] (fun Kt => Kt [(2, iN 0), (0, iN 3)] []) (by kernel_rfl) (fun _ => by kernel_rfl) (fun ac1 wd1 FF1 MM1 => then_n ?_))
  refine wp_seq ?_
  refine wp_seq (rg_seq FF1 MM1 [o_, t_ (.bool true), o_] [2, 0, 5] (fun Kt => CallP Try.prog 27 [iN 3] [] (.bool true) ∧ Kt [(5, .bool false), (2, iN 0), (0, iN 3)] []) (by kernel_rfl) (fun _ => by kernel_rfl) (⟨(callP_of en_issrv (issrv_yes 3 (by omega) (by omega)) _), fun ac2 wd2 FF2 MM2 => then_n ?_⟩))
  refine wp_cond_false (FF2.ev 0 rfl) ?_
  refine wp_skip ?_
  refine then_n ?_
  refine wp_seq (rg_seq FF2 MM2 [o_, t_ (iN 1), o_, o_, o_] [2, 0] (fun Kt => CallP Try.prog 28 [iN 3] [] (iN 1) ∧ 1 * 16 < 9223372036854775808 ∧ 36 + 16 < 9223372036854775808 ∧ Kt [(2, iN 52), (0, iN 3)] []) (by kernel_rfl) (fun _ => by kernel_rfl) (⟨(callP_of en_left (left_any 3 (by decide)) _), (by decide), (by decide), fun ac3 wd3 FF3 MM3 => then_n ?_⟩))
  refine wp_ret ?_
  repeat first | refine then_ret ?_ | refine inb_ret ?_
  exact (ret_fr FF3 0 Try.results18 rfl ⟨rfl, MM3.below⟩)
set_option maxRecDepth 100000 in
theorem rreply_3  (w0 : World) :
    Calls Try.prog 19 #[iN 3] w0 fun e w' => e = .returned (iN 52) ∧ Below w0.heap.size w0 w' := by
  refine enter_fr Try.func19 rfl Try.ntmps19 (by simp) fun ac (FF : Fr 10 ac [(0, iN 3)]) => ?_
  have MM := MemS.start w0
  refine wp_seq (rg_seq FF MM [o_] [0, 2] (fun Kt => Kt [(2, iN 0), (0, iN 3)] []) (by kernel_rfl) (fun _ => by kernel_rfl) (fun ac1 wd1 FF1 MM1 => then_n ?_))
  refine wp_seq ?_
  refine wp_seq (rg_seq FF1 MM1 [o_] [2, 3] (fun Kt => Kt [(3, iN 3), (2, iN 0)] []) (by kernel_rfl) (fun _ => by kernel_rfl) (fun ac2 wd2 FF2 MM2 => then_n ?_))
  refine wp_block ?_
  refine wp_seq (rg_seq FF2 MM2 [w_ 3, o_] [3, 2, 4] (fun Kt => ¬ (3 = 1) ∧ Kt [(4, .bool false), (3, iN 3), (2, iN 0)] []) (by kernel_rfl) (fun _ => by kernel_rfl) (⟨(by decide), fun ac3 wd3 FF3 MM3 => then_n ?_⟩))
  refine wp_cond_false (FF3.ev 0 rfl) ?_
  refine wp_seq (rg_seq FF3 MM3 [w_ 3, o_] [3, 2, 6] (fun Kt => ¬ (3 = 2) ∧ Kt [(6, .bool false), (3, iN 3), (2, iN 0)] []) (by kernel_rfl) (fun _ => by kernel_rfl) (⟨(by decide), fun ac4 wd4 FF4 MM4 => then_n ?_⟩))
  refine wp_cond_false (FF4.ev 0 rfl) ?_
  refine wp_seq (rg_seq FF4 MM4 [w_ 2, o_] [3, 2, 8] (fun Kt => 3 = 3 ∧ Kt [(8, .bool true), (3, iN 3), (2, iN 0)] []) (by kernel_rfl) (fun _ => by kernel_rfl) (⟨(by decide), fun ac5 wd5 FF5 MM5 => then_n ?_⟩))
  refine wp_cond_true (FF5.ev 0 rfl) ?_
  refine wp_seq (rg_seq FF5 MM5 [o_] [3, 2] (fun Kt => Kt [(2, iN 52), (3, iN 3)] []) (by kernel_rfl) (fun _ => by kernel_rfl) (fun ac6 wd6 FF6 MM6 => then_n ?_))
  refine wp_ret ?_
  repeat first | refine then_ret ?_ | refine inb_ret ?_
  exact (ret_fr FF6 0 Try.results19 rfl ⟨rfl, MM6.below⟩)
set_option maxRecDepth 100000 in
theorem reply_no (z : Int) (hz : z < 1 ∨ z > 3) (w0 : World) :
    Calls Try.prog 18 #[.int .i64 z] w0 fun e w' => e = .returned (iN 0) ∧ Below w0.heap.size w0 w' := by
  refine enter_fr Try.func18 rfl Try.ntmps18 (by simp) fun ac (FF : Fr 10 ac [(0, .int .i64 (z : Int))]) => ?_
  have MM := MemS.start w0
  refine wp_seq (rg_seq FF MM [o_] [0, 2] (fun Kt => Kt [(2, iN 0), (0, .int .i64 (z : Int))] []) (by kernel_rfl) (fun _ => by kernel_rfl) (fun ac1 wd1 FF1 MM1 => then_n ?_))
  refine wp_seq ?_
  refine wp_seq (rg_seq FF1 MM1 [o_, t_ (.bool false), o_] [2, 0, 5] (fun Kt => CallP Try.prog 27 [.int .i64 (z : Int)] [] (.bool false) ∧ Kt [(5, .bool true), (2, iN 0), (0, .int .i64 (z : Int))] []) (by kernel_rfl) (fun _ => by kernel_rfl) (⟨(callP_of en_issrv (issrv_no z hz) _), fun ac2 wd2 FF2 MM2 => then_n ?_⟩))
  refine wp_cond_true (FF2.ev 0 rfl) ?_
  refine wp_seq (rg_seq FF2 MM2 [o_] [2, 0] (fun Kt => Kt [(2, iN 0), (0, .int .i64 (z : Int))] []) (by kernel_rfl) (fun _ => by kernel_rfl) (fun ac3 wd3 FF3 MM3 => then_n ?_))
  refine wp_ret ?_
  repeat first | refine then_ret ?_ | refine inb_ret ?_
  exact (ret_fr FF3 0 Try.results18 rfl ⟨rfl, MM3.below⟩)
set_option maxRecDepth 100000 in
theorem rreply_no (z : Int) (hz : z < 1 ∨ z > 3) (w0 : World) :
    Calls Try.prog 19 #[.int .i64 z] w0 fun e w' => e = .returned (iN 0) ∧ Below w0.heap.size w0 w' := by
  refine enter_fr Try.func19 rfl Try.ntmps19 (by simp) fun ac (FF : Fr 10 ac [(0, .int .i64 (z : Int))]) => ?_
  have MM := MemS.start w0
  refine wp_seq (rg_seq FF MM [o_] [0, 2] (fun Kt => Kt [(2, iN 0), (0, .int .i64 (z : Int))] []) (by kernel_rfl) (fun _ => by kernel_rfl) (fun ac1 wd1 FF1 MM1 => then_n ?_))
  refine wp_seq ?_
  refine wp_seq (rg_seq FF1 MM1 [o_] [2, 3] (fun Kt => Kt [(3, .int .i64 (z : Int)), (2, iN 0)] []) (by kernel_rfl) (fun _ => by kernel_rfl) (fun ac2 wd2 FF2 MM2 => then_n ?_))
  refine wp_block ?_
  refine wp_seq (rg_seq FF2 MM2 [u_ 4 (.bool false), o_] [3, 2, 4] (fun Kt => Value.bool (decide (z = ((1 : Nat) : Int))) = .bool false ∧ Kt [(4, .bool false), (3, .int .i64 (z : Int)), (2, iN 0)] []) (by kernel_rfl) (fun _ => by kernel_rfl) (⟨(dec_f (by omega)), fun ac3 wd3 FF3 MM3 => then_n ?_⟩))
  refine wp_cond_false (FF3.ev 0 rfl) ?_
  refine wp_seq (rg_seq FF3 MM3 [u_ 4 (.bool false), o_] [3, 2, 6] (fun Kt => Value.bool (decide (z = ((2 : Nat) : Int))) = .bool false ∧ Kt [(6, .bool false), (3, .int .i64 (z : Int)), (2, iN 0)] []) (by kernel_rfl) (fun _ => by kernel_rfl) (⟨(dec_f (by omega)), fun ac4 wd4 FF4 MM4 => then_n ?_⟩))
  refine wp_cond_false (FF4.ev 0 rfl) ?_
  refine wp_seq (rg_seq FF4 MM4 [u_ 4 (.bool false), o_] [3, 2, 8] (fun Kt => Value.bool (decide (z = ((3 : Nat) : Int))) = .bool false ∧ Kt [(8, .bool false), (3, .int .i64 (z : Int)), (2, iN 0)] []) (by kernel_rfl) (fun _ => by kernel_rfl) (⟨(dec_f (by omega)), fun ac5 wd5 FF5 MM5 => then_n ?_⟩))
  refine wp_cond_false (FF5.ev 0 rfl) ?_
  refine wp_skip ?_
  refine inb_n ?_
  refine then_n ?_
  refine wp_seq (rg_seq FF5 MM5 [o_] [3, 2] (fun Kt => Kt [(2, iN 0), (3, .int .i64 (z : Int))] []) (by kernel_rfl) (fun _ => by kernel_rfl) (fun ac6 wd6 FF6 MM6 => then_n ?_))
  refine wp_ret ?_
  repeat first | refine then_ret ?_ | refine inb_ret ?_
  exact (ret_fr FF6 0 Try.results19 rfl ⟨rfl, MM6.below⟩)
theorem reply_any (z : Int) (w : World) : Calls Try.prog 18 #[.int .i64 z] w fun e w' => e = .returned (iN (replyZ z)) ∧ Below w.heap.size w w' := by
  by_cases hz : z < 1 ∨ z > 3
  · rw [replyZ_no hz]; exact reply_no z hz w
  · have h3 : z = 1 ∨ z = 2 ∨ z = 3 := by omega
    rcases h3 with rfl | rfl | rfl
    · exact reply_1 w
    · exact reply_2 w
    · exact reply_3 w
theorem rreply_any (z : Int) (w : World) : Calls Try.prog 19 #[.int .i64 z] w fun e w' => e = .returned (iN (replyZ z)) ∧ Below w.heap.size w w' := by
  by_cases hz : z < 1 ∨ z > 3
  · rw [replyZ_no hz]; exact rreply_no z hz w
  · have h3 : z = 1 ∨ z = 2 ∨ z = 3 := by omega
    rcases h3 with rfl | rfl | rfl
    · exact rreply_1 w
    · exact rreply_2 w
    · exact rreply_3 w
set_option maxRecDepth 100000 in
theorem body_any (X : List Nat) (hX : ∀ i, X.getD i 0 < 256) (w0 : World) :
    Calls Try.prog 9 #[sB X] w0 fun e w' => e = .returned (.tuple #[.string (bs (bodyR X).1), iN ((bodyR X).2)]) ∧ Below w0.heap.size w0 w' := by
  refine enter_fr Try.func9 rfl Try.ntmps9 (by simp) fun ac (FF : Fr 17 ac [(0, sB X)]) => ?_
  have MM := MemS.start w0
  refine wp_seq (rg_seq FF MM [o_, o_] [0, 2, 3] (fun Kt => Kt [(3, iN 0), (2, sB []), (0, sB X)] []) (by kernel_rfl) (fun _ => by kernel_rfl) (fun ac1 wd1 FF1 MM1 => then_n ?_))
  refine wp_seq ?_
  refine wp_seq (rg_seq FF1 MM1 [o_, t_ (iN X.length), o_] [3, 2, 0, 7] (fun Kt => iN ((bs X).size) = iN X.length ∧ Kt [(7, .bool (decide (X.length > 19))), (3, iN 0), (2, sB []), (0, sB X)] []) (by kernel_rfl) (fun _ => by kernel_rfl) (⟨(vI (bs_size _)), fun ac2 wd2 FF2 MM2 => then_n ?_⟩))
  by_cases hs7 : X.length > 19
  · refine wp_cond_true ((FF2.ev 0 rfl).trans (dec_t hs7)) ?_
    refine wp_seq (rg_seq FF2 MM2 [o_, o_] [3, 2, 0] (fun Kt => Kt [(3, iN 4), (2, sB []), (0, sB X)] []) (by kernel_rfl) (fun _ => by kernel_rfl) (fun ac3 wd3 FF3 MM3 => then_n ?_))
    refine wp_ret ?_
    repeat first | refine then_ret ?_ | refine inb_ret ?_
    exact (ret_tup2 FF3 1 0 Try.results9 rfl rfl ⟨by rw [bodyR_no hs7], MM3.below⟩)
  · refine wp_cond_false ((FF2.ev 0 rfl).trans (dec_f hs7)) ?_
    have h19 : X.length ≤ 19 := by omega
    refine wp_skip ?_
    refine then_n ?_
    refine wp_seq (rg_seq FF2 MM2 [o_] [3, 2, 0, 4] (fun Kt => ∀ bl, Kt [(4, pT bl), (3, iN 0), (2, sB []), (0, sB X)] [(bl, .cells (cn .u8 (List.replicate 20 0)) 55)]) (by kernel_rfl) (fun _ => by kernel_rfl) (fun bl => fun ac4 wd4 FF4 MM4 => then_n ?_))
    refine wp_seq (rg_seq FF4 MM4 [o_, t_ (iN X.length), t_ (iB X.length), w_ 1, s_ 0 (.cells (cn .u8 ((List.replicate 20 0).set 0 X.length)) 55)] [4, 3, 2, 0] (fun Kt => iN ((bs X).size) = iN X.length ∧ iB (X.length % 256) = iB X.length ∧ 0 < 20 ∧ bl = bl ∧ 0 < (cn .u8 (List.replicate 20 0)).size ∧ (((0, 0)).2 = 0 ∨ 0 < ((0, 0)).1) ∧ (cn .u8 (List.replicate 20 0)).setIfInBounds 0 (iB X.length) = cn .u8 ((List.replicate 20 0).set 0 X.length) ∧ Kt [(4, pT bl), (3, iN 0), (2, sB []), (0, sB X)] [(bl, .cells (cn .u8 ((List.replicate 20 0).set 0 X.length)) 55)]) (by kernel_rfl) (fun _ => by kernel_rfl) (⟨(vI (bs_size _)), (vI (Nat.mod_eq_of_lt (by omega))), (by decide), rfl, (by rw [cn_size, (List.length_replicate ..)]; decide), (.inl rfl), (cn_set _ _ _ _), fun ac5 wd5 FF5 MM5 => then_n ?_⟩))
    refine wp_seq (rg_seq FF5 MM5 [o_, o_, r_ (iN (min X.length 19)) [(0, .cells (cn .u8 (bodyN X)) 55)]] [4, 3, 2, 0] (fun Kt => 1 ≤ 20 ∧ 20 ≤ 20 ∧ 1 < 20 ∧ RunU Try.prog [(13, sB X), (12, .slice (some ⟨bl, 1, none⟩) 19 19), (4, pT bl), (3, iN 0), (2, sB []), (0, sB X)] [(bl, .cells (cn .u8 ((List.replicate 20 0).set 0 X.length)) 55)] (opAt Try.f9 5 2) (iN (min X.length 19)) [(0, .cells (cn .u8 (bodyN X)) 55)] ∧ Kt [(4, pT bl), (3, iN 0), (2, sB []), (0, sB X)] [(bl, .cells (cn .u8 (bodyN X)) 55)]) (by kernel_rfl) (fun _ => by kernel_rfl) (⟨(by decide), (by decide), (by decide), (copyStr_ok (p := .tmp 12) (q := .tmp 13) (t := 40) (tq := 9) (e := 5) (T := 55) (off := 1) (len := 19) (X := X) (cs := cn .u8 ((List.replicate 20 0).set 0 X.length)) (i := 0) (by kernel_rfl) rfl rfl hX Try.underlying40 (by kernel_rfl) rfl (by rw [cn_size, List.length_set, List.length_replicate]; decide) (body_cells h19)), fun ac6 wd6 FF6 MM6 => then_n ?_⟩))
    refine wp_seq (rg_seq FF6 MM6 [o_, l_ 0 (sB (bodyN X)), o_, o_] [4, 3, 2, 0] (fun Kt => 0 ≤ 20 ∧ 20 ≤ 20 ∧ 0 < 20 ∧ bl = bl ∧ StrAt (cn .u8 (bodyN X)) 0 20 (bs (bodyN X)) ∧ Kt [(3, iN 0), (2, sB (bodyN X)), (4, pT bl), (0, sB X)] [(bl, .cells (cn .u8 (bodyN X)) 55)]) (by kernel_rfl) (fun _ => by kernel_rfl) (⟨(by decide), (by decide), (by decide), rfl, (str_all (bodyN_len h19) (bodyN_lt hX h19)), fun ac7 wd7 FF7 MM7 => then_n ?_⟩))
    refine wp_ret ?_
    repeat first | refine then_ret ?_ | refine inb_ret ?_
    exact (ret_tup2 FF7 1 0 Try.results9 rfl rfl ⟨by rw [bodyR_ok h19], MM7.below⟩)
set_option maxRecDepth 100000 in
theorem noughts_any (n : Nat) (hn : n ≤ 1000000) (w0 : World) :
    Calls Try.prog 25 #[iN n] w0 fun e w' => e = .returned (sB (List.replicate n 0)) ∧ Below w0.heap.size w0 w' := by
  refine enter_fr Try.func25 rfl Try.ntmps25 (by simp) fun ac (FF : Fr 6 ac [(0, iN n)]) => ?_
  have MM := MemS.start w0
  refine wp_seq (rg_seq FF MM [o_] [0, 2] (fun Kt => Kt [(2, sB []), (0, iN n)] []) (by kernel_rfl) (fun _ => by kernel_rfl) (fun ac1 wd1 FF1 MM1 => then_n ?_))
  refine wp_seq (rg_seq FF1 MM1 [o_, n_ (.slice none n n) (.cells (cn .u8 (List.replicate n 0)) 5), l_ 0 (sB (List.replicate n 0)), o_] [2] (fun Kt => RunN Try.prog [(3, iN n), (2, sB []), (0, iN n)] [] (opAt Try.f25 1 1) (mkOf (.slice none n n)) (.cells (cn .u8 (List.replicate n 0)) 5) ∧ ∀ b1, b1 = b1 ∧ StrAt (cn .u8 (List.replicate n 0)) 0 n (bs (List.replicate n 0)) ∧ Kt [(2, sB (List.replicate n 0))] [(b1, .cells (cn .u8 (List.replicate n 0)) 5)]) (by kernel_rfl) (fun _ => by kernel_rfl) (⟨(make_ok (t := 40) (e := 5) (p := (.tmp 3)) (q := (.tmp 3)) (by kernel_rfl) rfl rfl Try.underlying40 (by kernel_rfl) (by omega)), fun b1 => ⟨rfl, (str_all (List.length_replicate ..) (rep0_lt)), fun ac2 wd2 FF2 MM2 => then_n ?_⟩⟩))
  refine wp_ret ?_
  repeat first | refine then_ret ?_ | refine inb_ret ?_
  exact (ret_fr FF2 0 Try.results25 rfl ⟨rfl, MM2.below⟩)
set_option maxRecDepth 100000 in
theorem rbody_any (X : List Nat) (_hX : ∀ i, X.getD i 0 < 256) (w0 : World) :
    Calls Try.prog 10 #[sB X] w0 fun e w' => e = .returned (.tuple #[.string (bs (bodyR X).1), iN ((bodyR X).2)]) ∧ Below w0.heap.size w0 w' := by
  refine enter_fr Try.func10 rfl Try.ntmps10 (by simp) fun ac (FF : Fr 19 ac [(0, sB X)]) => ?_
  have MM := MemS.start w0
  refine wp_seq (rg_seq FF MM [o_, o_] [0, 2, 3] (fun Kt => Kt [(3, iN 0), (2, sB []), (0, sB X)] []) (by kernel_rfl) (fun _ => by kernel_rfl) (fun ac1 wd1 FF1 MM1 => then_n ?_))
  refine wp_seq ?_
  refine wp_seq (rg_seq FF1 MM1 [o_, t_ (iN X.length), o_] [3, 2, 0, 6] (fun Kt => iN ((bs X).size) = iN X.length ∧ Kt [(6, .bool (decide (X.length > 19))), (3, iN 0), (2, sB []), (0, sB X)] []) (by kernel_rfl) (fun _ => by kernel_rfl) (⟨(vI (bs_size _)), fun ac2 wd2 FF2 MM2 => then_n ?_⟩))
  by_cases hs6 : X.length > 19
  · refine wp_cond_true ((FF2.ev 0 rfl).trans (dec_t hs6)) ?_
    refine wp_seq (rg_seq FF2 MM2 [o_, o_] [3, 2, 0] (fun Kt => Kt [(3, iN 4), (2, sB []), (0, sB X)] []) (by kernel_rfl) (fun _ => by kernel_rfl) (fun ac3 wd3 FF3 MM3 => then_n ?_))
    refine wp_ret ?_
    repeat first | refine then_ret ?_ | refine inb_ret ?_
    exact (ret_tup2 FF3 1 0 Try.results10 rfl rfl ⟨by rw [bodyR_no hs6], MM3.below⟩)
  · refine wp_cond_false ((FF2.ev 0 rfl).trans (dec_f hs6)) ?_
    have h19 : X.length ≤ 19 := by omega
    have h1b : ∀ i, [X.length].getD i 0 < 256 := cons_lt (by omega) (lit_lt (by kernel_rfl))
    refine wp_skip ?_
    refine then_n ?_
    refine wp_seq (rg_draw FF2 MM2 [.inl (sB X), .inl (iN X.length), .inl (iB X.length), .inr (.cells (cn .u8 [X.length]) 5, fun b => .slice (some ⟨b, 0, none⟩) 1 1), .inl (sB [X.length]), .inl (sB X), .inl (sB ([X.length] ++ X)), .inl (sB X), .inl (iN X.length), .inl (iN (19 - X.length)), .inl (sB (List.replicate (19 - X.length) 0)), .inl (sB (bodyN X)), .inl (sB (bodyN X)), .inl (iN 0)] [] [o_, t_ (iN X.length), t_ (iB X.length), o_, l_ 0 (sB [X.length]), o_, t_ (sB ([X.length] ++ X)), o_, t_ (iN X.length), o_, t_ (sB (List.replicate (19 - X.length) 0)), t_ (sB (bodyN X)), o_, o_] [] [3, 2, 0] (fun nb => [iN ((bs X).size) = iN X.length, iB (X.length % 256) = iB X.length, (nb 3) = (nb 3), StrAt (cn .u8 [X.length]) 0 1 (bs [X.length]), (bs [X.length]).size + (bs X).size ≤ 9223372036854775807, Value.string (bs [X.length] ++ bs X) = sB ([X.length] ++ X), iN ((bs X).size) = iN X.length, X.length ≤ 19, 19 - X.length < 9223372036854775808, CallP Try.prog 25 [iN (19 - X.length)] [] (sB (List.replicate (19 - X.length) 0)), (bs ([X.length] ++ X)).size + (bs (List.replicate (19 - X.length) 0)).size ≤ 9223372036854775807, Value.string (bs ([X.length] ++ X) ++ bs (List.replicate (19 - X.length) 0)) = sB (bodyN X)]) (fun nb Kt => Kt [(3, iN 0), (2, sB (bodyN X)), (0, sB X)] []) (by kernel_rfl) (by kernel_rfl) (by kernel_rfl) (fun _ => by kernel_rfl) (fun _ _ => by kernel_rfl) trivial (fun nb => ⟨(vI (bs_size _)), (vI (Nat.mod_eq_of_lt (by omega))), rfl, (str_all rfl h1b), (by simp only [bs_size, List.length_cons, List.length_nil]; omega), (vS2 (bs_app _ _)), (vI (bs_size _)), (by omega), (by omega), (callP_of en_noughts (noughts_any (19 - X.length) (by omega)) _), (by simp only [bs_size, List.length_append, List.length_cons, List.length_nil, List.length_replicate]; omega), (vS2 (bs_app _ _)), trivial⟩) (fun nb => fun ac4 wd4 FF4 MM4 => then_n ?_))
    refine wp_ret ?_
    repeat first | refine then_ret ?_ | refine inb_ret ?_
    exact (ret_tup2 FF4 1 0 Try.results10 rfl rfl ⟨by rw [bodyR_ok h19], MM4.below⟩)
set_option maxRecDepth 100000 in
theorem text_any (B : List Nat) (hB : ∀ i, B.getD i 0 < 256) (w0 : World) :
    Calls Try.prog 11 #[sB B] w0 fun e w' => e = .returned (.tuple #[.string (bs (textR B).1), .bool (textR B).2]) ∧ Below w0.heap.size w0 w' := by
  refine enter_fr Try.func11 rfl Try.ntmps11 (by simp) fun ac (FF : Fr 32 ac [(0, sB B)]) => ?_
  have MM := MemS.start w0
  refine wp_seq (rg_seq FF MM [o_, o_] [0, 2, 3] (fun Kt => Kt [(3, .bool false), (2, sB []), (0, sB B)] []) (by kernel_rfl) (fun _ => by kernel_rfl) (fun ac1 wd1 FF1 MM1 => then_n ?_))
  refine wp_seq ?_
  by_cases h20 : B.length = 20
  · by_cases h0 : B.getD 0 0 ≤ 19
    · skip
      refine wp_seq (rg_seq FF1 MM1 [o_, t_ (iN B.length), w_ 3, o_, o_, t_ (iB (B.getD 0 0)), w_ 1, w_ 3, o_] [3, 2, 0, 15] (fun Kt => iN ((bs B).size) = iN B.length ∧ ¬ (B.length ≠ 20) ∧ 0 < (bs B).size ∧ (nl (bs B)).getD 0 0 = B.getD 0 0 ∧ (B.getD 0 0) < 9223372036854775808 ∧ ¬ ((B.getD 0 0) > 19) ∧ Kt [(15, .bool false), (3, .bool false), (2, sB []), (0, sB B)] []) (by kernel_rfl) (fun _ => by kernel_rfl) (⟨(vI (bs_size _)), (fun h => h h20), (by simp only [bs_size]; omega), (byte_bs hB _), (by have := hB 0; omega), (by omega), fun ac2 wd2 FF2 MM2 => then_n ?_⟩))
      refine wp_cond_false (FF2.ev 0 rfl) ?_
      refine wp_skip ?_
      refine then_n ?_
      have htl := textN_len h20 h0
      refine wp_seq (rg_seq FF2 MM2 [o_, o_, t_ (iB (B.getD 0 0)), w_ 1, o_, t_ (sB (textN B)), t_ (sB (textN B)), o_] [3, 2, 0, 4] (fun Kt => 0 < (bs B).size ∧ (nl (bs B)).getD 0 0 = B.getD 0 0 ∧ (B.getD 0 0) < 9223372036854775808 ∧ 1 + (B.getD 0 0) < 9223372036854775808 ∧ 1 ≤ (1 + (B.getD 0 0)) ∧ (1 + (B.getD 0 0)) ≤ (bs B).size ∧ Value.string ((bs B).extract 1 (1 + (B.getD 0 0))) = sB (textN B) ∧ CallP Try.prog 26 [sB (textN B)] [] (sB (textN B)) ∧ Kt [(4, sB (textN B)), (3, .bool false), (2, sB []), (0, sB B)] []) (by kernel_rfl) (fun _ => by kernel_rfl) (⟨(by simp only [bs_size]; omega), (byte_bs hB _), (by have := hB 0; omega), (by have := hB 0; omega), (by have := hB 0; omega), (by simp only [bs_size]; have := hB 0; omega), (vS2 (bs_extract _ _ _)), (callP_of en_clone (clone_any (textN B) (textN_lt hB) (by omega)) _), fun ac3 wd3 FF3 MM3 => then_n ?_⟩))
      refine wp_seq ?_
      refine wp_seq (rg_seq FF3 MM3 [o_, t_ (.tuple #[sB (bodyN (textN B)), iN 0]), o_, o_, o_, o_, o_] [4, 3, 2, 0, 5] (fun Kt => CallP Try.prog 9 [sB (textN B)] [] (.tuple #[sB (bodyN (textN B)), iN 0]) ∧ Kt [(5, sB (bodyN (textN B))), (4, sB (textN B)), (3, .bool false), (2, sB []), (0, sB B)] []) (by kernel_rfl) (fun _ => by kernel_rfl) (⟨(callP_of en_body (fun w => by have h0 := body_any (textN B) (textN_lt hB) w; rw [bodyR_ok (by omega)] at h0; exact h0) _), fun ac4 wd4 FF4 MM4 => then_n ?_⟩))
      by_cases he : bodyN (textN B) = B
      · skip
        refine wp_seq (rg_seq FF4 MM4 [o_, o_, w_ 3] [4, 3, 2, 0, 30] (fun Kt => ¬ (bs (bodyN (textN B)) ≠ bs B) ∧ Kt [(30, .bool false), (4, sB (textN B)), (3, .bool false), (2, sB []), (0, sB B)] []) (by kernel_rfl) (fun _ => by kernel_rfl) (⟨(fun h => h (congrArg bs he)), fun ac5 wd5 FF5 MM5 => then_n ?_⟩))
        refine wp_cond_false (FF5.ev 0 rfl) ?_
        refine wp_skip ?_
        refine then_n ?_
        refine wp_seq (rg_seq FF5 MM5 [o_, o_, o_] [4, 3, 2, 0] (fun Kt => Kt [(3, .bool true), (2, sB (textN B)), (4, sB (textN B)), (0, sB B)] []) (by kernel_rfl) (fun _ => by kernel_rfl) (fun ac6 wd6 FF6 MM6 => then_n ?_))
        refine wp_ret ?_
        repeat first | refine then_ret ?_ | refine inb_ret ?_
        exact (ret_tup2 FF6 1 0 Try.results11 rfl rfl ⟨by rw [textR_ok h20 h0 he], MM6.below⟩)
      · skip
        refine wp_seq (rg_seq FF4 MM4 [o_, o_, w_ 2] [4, 3, 2, 0, 30] (fun Kt => bs (bodyN (textN B)) ≠ bs B ∧ Kt [(30, .bool true), (4, sB (textN B)), (3, .bool false), (2, sB []), (0, sB B)] []) (by kernel_rfl) (fun _ => by kernel_rfl) (⟨(fun h => he (bs_inj (bodyN_lt (textN_lt hB) (by omega)) hB h)), fun ac7 wd7 FF7 MM7 => then_n ?_⟩))
        refine wp_cond_true (FF7.ev 0 rfl) ?_
        refine wp_seq (rg_seq FF7 MM7 [o_, o_] [4, 3, 2, 0] (fun Kt => Kt [(3, .bool false), (2, sB []), (4, sB (textN B)), (0, sB B)] []) (by kernel_rfl) (fun _ => by kernel_rfl) (fun ac8 wd8 FF8 MM8 => then_n ?_))
        refine wp_ret ?_
        repeat first | refine then_ret ?_ | refine inb_ret ?_
        exact (ret_tup2 FF8 1 0 Try.results11 rfl rfl ⟨by rw [textR_else he], MM8.below⟩)
    · skip
      refine wp_seq (rg_seq FF1 MM1 [o_, t_ (iN B.length), w_ 3, o_, o_, t_ (iB (B.getD 0 0)), w_ 1, w_ 2, o_] [3, 2, 0, 15] (fun Kt => iN ((bs B).size) = iN B.length ∧ ¬ (B.length ≠ 20) ∧ 0 < (bs B).size ∧ (nl (bs B)).getD 0 0 = B.getD 0 0 ∧ (B.getD 0 0) < 9223372036854775808 ∧ (B.getD 0 0) > 19 ∧ Kt [(15, .bool true), (3, .bool false), (2, sB []), (0, sB B)] []) (by kernel_rfl) (fun _ => by kernel_rfl) (⟨(vI (bs_size _)), (fun h => h h20), (by simp only [bs_size]; omega), (byte_bs hB _), (by have := hB 0; omega), (by omega), fun ac9 wd9 FF9 MM9 => then_n ?_⟩))
      refine wp_cond_true (FF9.ev 0 rfl) ?_
      refine wp_seq (rg_seq FF9 MM9 [o_, o_] [3, 2, 0] (fun Kt => Kt [(3, .bool false), (2, sB []), (0, sB B)] []) (by kernel_rfl) (fun _ => by kernel_rfl) (fun ac10 wd10 FF10 MM10 => then_n ?_))
      refine wp_ret ?_
      repeat first | refine then_ret ?_ | refine inb_ret ?_
      exact (ret_tup2 FF10 1 0 Try.results11 rfl rfl ⟨by rw [textR_big (by omega)], MM10.below⟩)
  · skip
    refine wp_seq (rg_seq FF1 MM1 [o_, t_ (iN B.length), w_ 2, o_, o_, o_, o_, o_, o_] [3, 2, 0, 15] (fun Kt => iN ((bs B).size) = iN B.length ∧ B.length ≠ 20 ∧ Kt [(15, .bool true), (3, .bool false), (2, sB []), (0, sB B)] []) (by kernel_rfl) (fun _ => by kernel_rfl) (⟨(vI (bs_size _)), h20, fun ac11 wd11 FF11 MM11 => then_n ?_⟩))
    refine wp_cond_true (FF11.ev 0 rfl) ?_
    refine wp_seq (rg_seq FF11 MM11 [o_, o_] [3, 2, 0] (fun Kt => Kt [(3, .bool false), (2, sB []), (0, sB B)] []) (by kernel_rfl) (fun _ => by kernel_rfl) (fun ac12 wd12 FF12 MM12 => then_n ?_))
    refine wp_ret ?_
    repeat first | refine then_ret ?_ | refine inb_ret ?_
    exact (ret_tup2 FF12 1 0 Try.results11 rfl rfl ⟨by rw [textR_len h20], MM12.below⟩)
set_option maxRecDepth 100000 in
theorem rtext_any (B : List Nat) (hB : ∀ i, B.getD i 0 < 256) (w0 : World) :
    Calls Try.prog 12 #[sB B] w0 fun e w' => e = .returned (.tuple #[.string (bs (textR B).1), .bool (textR B).2]) ∧ Below w0.heap.size w0 w' := by
  refine enter_fr Try.func12 rfl Try.ntmps12 (by simp) fun ac (FF : Fr 31 ac [(0, sB B)]) => ?_
  have MM := MemS.start w0
  refine wp_seq (rg_seq FF MM [o_, o_] [0, 2, 3] (fun Kt => Kt [(3, .bool false), (2, sB []), (0, sB B)] []) (by kernel_rfl) (fun _ => by kernel_rfl) (fun ac1 wd1 FF1 MM1 => then_n ?_))
  refine wp_seq ?_
  by_cases h20 : B.length = 20
  · by_cases h0 : B.getD 0 0 ≤ 19
    · skip
      refine wp_seq (rg_seq FF1 MM1 [o_, t_ (iN B.length), w_ 3, o_, o_, t_ (iB (B.getD 0 0)), w_ 1, w_ 3, o_] [3, 2, 0, 15] (fun Kt => iN ((bs B).size) = iN B.length ∧ ¬ (B.length ≠ 20) ∧ 0 < (bs B).size ∧ (nl (bs B)).getD 0 0 = B.getD 0 0 ∧ (B.getD 0 0) < 9223372036854775808 ∧ ¬ ((B.getD 0 0) > 19) ∧ Kt [(15, .bool false), (3, .bool false), (2, sB []), (0, sB B)] []) (by kernel_rfl) (fun _ => by kernel_rfl) (⟨(vI (bs_size _)), (fun h => h h20), (by simp only [bs_size]; omega), (byte_bs hB _), (by have := hB 0; omega), (by omega), fun ac2 wd2 FF2 MM2 => then_n ?_⟩))
      refine wp_cond_false (FF2.ev 0 rfl) ?_
      refine wp_skip ?_
      refine then_n ?_
      have htl := textN_len h20 h0
      refine wp_seq (rg_seq FF2 MM2 [o_, o_, t_ (iB (B.getD 0 0)), w_ 1, o_, t_ (sB (textN B)), o_] [3, 2, 0, 4] (fun Kt => 0 < (bs B).size ∧ (nl (bs B)).getD 0 0 = B.getD 0 0 ∧ (B.getD 0 0) < 9223372036854775808 ∧ 1 + (B.getD 0 0) < 9223372036854775808 ∧ 1 ≤ (1 + (B.getD 0 0)) ∧ (1 + (B.getD 0 0)) ≤ (bs B).size ∧ Value.string ((bs B).extract 1 (1 + (B.getD 0 0))) = sB (textN B) ∧ Kt [(4, sB (textN B)), (3, .bool false), (2, sB []), (0, sB B)] []) (by kernel_rfl) (fun _ => by kernel_rfl) (⟨(by simp only [bs_size]; omega), (byte_bs hB _), (by have := hB 0; omega), (by have := hB 0; omega), (by have := hB 0; omega), (by simp only [bs_size]; have := hB 0; omega), (vS2 (bs_extract _ _ _)), fun ac3 wd3 FF3 MM3 => then_n ?_⟩))
      refine wp_seq (rg_seq FF3 MM3 [o_, t_ (.tuple #[sB (bodyN (textN B)), iN 0]), o_, o_, o_, o_, o_] [4, 3, 2, 0, 5] (fun Kt => CallP Try.prog 10 [sB (textN B)] [] (.tuple #[sB (bodyN (textN B)), iN 0]) ∧ Kt [(5, sB (bodyN (textN B))), (4, sB (textN B)), (3, .bool false), (2, sB []), (0, sB B)] []) (by kernel_rfl) (fun _ => by kernel_rfl) (⟨(callP_of en_rbody (fun w => by have h0 := rbody_any (textN B) (textN_lt hB) w; rw [bodyR_ok (by omega)] at h0; exact h0) _), fun ac4 wd4 FF4 MM4 => then_n ?_⟩))
      refine wp_seq ?_
      by_cases he : bodyN (textN B) = B
      · skip
        refine wp_seq (rg_seq FF4 MM4 [o_, o_, w_ 3] [4, 3, 2, 0, 29] (fun Kt => ¬ (bs (bodyN (textN B)) ≠ bs B) ∧ Kt [(29, .bool false), (4, sB (textN B)), (3, .bool false), (2, sB []), (0, sB B)] []) (by kernel_rfl) (fun _ => by kernel_rfl) (⟨(fun h => h (congrArg bs he)), fun ac5 wd5 FF5 MM5 => then_n ?_⟩))
        refine wp_cond_false (FF5.ev 0 rfl) ?_
        refine wp_skip ?_
        refine then_n ?_
        refine wp_seq (rg_seq FF5 MM5 [o_, o_, o_] [4, 3, 2, 0] (fun Kt => Kt [(3, .bool true), (2, sB (textN B)), (4, sB (textN B)), (0, sB B)] []) (by kernel_rfl) (fun _ => by kernel_rfl) (fun ac6 wd6 FF6 MM6 => then_n ?_))
        refine wp_ret ?_
        repeat first | refine then_ret ?_ | refine inb_ret ?_
        exact (ret_tup2 FF6 1 0 Try.results12 rfl rfl ⟨by rw [textR_ok h20 h0 he], MM6.below⟩)
      · skip
        refine wp_seq (rg_seq FF4 MM4 [o_, o_, w_ 2] [4, 3, 2, 0, 29] (fun Kt => bs (bodyN (textN B)) ≠ bs B ∧ Kt [(29, .bool true), (4, sB (textN B)), (3, .bool false), (2, sB []), (0, sB B)] []) (by kernel_rfl) (fun _ => by kernel_rfl) (⟨(fun h => he (bs_inj (bodyN_lt (textN_lt hB) (by omega)) hB h)), fun ac7 wd7 FF7 MM7 => then_n ?_⟩))
        refine wp_cond_true (FF7.ev 0 rfl) ?_
        refine wp_seq (rg_seq FF7 MM7 [o_, o_] [4, 3, 2, 0] (fun Kt => Kt [(3, .bool false), (2, sB []), (4, sB (textN B)), (0, sB B)] []) (by kernel_rfl) (fun _ => by kernel_rfl) (fun ac8 wd8 FF8 MM8 => then_n ?_))
        refine wp_ret ?_
        repeat first | refine then_ret ?_ | refine inb_ret ?_
        exact (ret_tup2 FF8 1 0 Try.results12 rfl rfl ⟨by rw [textR_else he], MM8.below⟩)
    · skip
      refine wp_seq (rg_seq FF1 MM1 [o_, t_ (iN B.length), w_ 3, o_, o_, t_ (iB (B.getD 0 0)), w_ 1, w_ 2, o_] [3, 2, 0, 15] (fun Kt => iN ((bs B).size) = iN B.length ∧ ¬ (B.length ≠ 20) ∧ 0 < (bs B).size ∧ (nl (bs B)).getD 0 0 = B.getD 0 0 ∧ (B.getD 0 0) < 9223372036854775808 ∧ (B.getD 0 0) > 19 ∧ Kt [(15, .bool true), (3, .bool false), (2, sB []), (0, sB B)] []) (by kernel_rfl) (fun _ => by kernel_rfl) (⟨(vI (bs_size _)), (fun h => h h20), (by simp only [bs_size]; omega), (byte_bs hB _), (by have := hB 0; omega), (by omega), fun ac9 wd9 FF9 MM9 => then_n ?_⟩))
      refine wp_cond_true (FF9.ev 0 rfl) ?_
      refine wp_seq (rg_seq FF9 MM9 [o_, o_] [3, 2, 0] (fun Kt => Kt [(3, .bool false), (2, sB []), (0, sB B)] []) (by kernel_rfl) (fun _ => by kernel_rfl) (fun ac10 wd10 FF10 MM10 => then_n ?_))
      refine wp_ret ?_
      repeat first | refine then_ret ?_ | refine inb_ret ?_
      exact (ret_tup2 FF10 1 0 Try.results12 rfl rfl ⟨by rw [textR_big (by omega)], MM10.below⟩)
  · skip
    refine wp_seq (rg_seq FF1 MM1 [o_, t_ (iN B.length), w_ 2, o_, o_, o_, o_, o_, o_] [3, 2, 0, 15] (fun Kt => iN ((bs B).size) = iN B.length ∧ B.length ≠ 20 ∧ Kt [(15, .bool true), (3, .bool false), (2, sB []), (0, sB B)] []) (by kernel_rfl) (fun _ => by kernel_rfl) (⟨(vI (bs_size _)), h20, fun ac11 wd11 FF11 MM11 => then_n ?_⟩))
    refine wp_cond_true (FF11.ev 0 rfl) ?_
    refine wp_seq (rg_seq FF11 MM11 [o_, o_] [3, 2, 0] (fun Kt => Kt [(3, .bool false), (2, sB []), (0, sB B)] []) (by kernel_rfl) (fun _ => by kernel_rfl) (fun ac12 wd12 FF12 MM12 => then_n ?_))
    refine wp_ret ?_
    repeat first | refine then_ret ?_ | refine inb_ret ?_
    exact (ret_tup2 FF12 1 0 Try.results12 rfl rfl ⟨by rw [textR_len h20], MM12.below⟩)
set_option maxRecDepth 100000 in
theorem request_any (D : List Nat) (hDl : D.length = 16) (hD : ∀ i, D.getD i 0 < 256) (B : List Nat) (w0 : World) :
    Calls Try.prog 13 #[.agg (cn .u8 D), sB B] w0 fun e w' => e = .returned (.tuple #[.string (bs (requestR D B).1), iN ((requestR D B).2)]) ∧ Below w0.heap.size w0 w' := by
  refine enter_fr Try.func13 rfl Try.ntmps13 (by simp) fun ac (FF : Fr 13 ac [(0, .agg (cn .u8 D)), (1, sB B)]) => ?_
  have MM := MemS.start w0
  refine wp_seq (rg_seq FF MM [o_, o_, o_] [1, 2, 4, 5] (fun Kt => ∀ bi, Kt [(5, iN 0), (4, sB []), (2, pT bi), (1, sB B)] [(bi, .cells (cn .u8 D) 24)]) (by kernel_rfl) (fun _ => by kernel_rfl) (fun bi => fun ac1 wd1 FF1 MM1 => then_n ?_))
  refine wp_seq ?_
  refine wp_seq (rg_seq FF1 MM1 [o_, t_ (iN B.length), o_] [5, 4, 2, 1, 8] (fun Kt => iN ((bs B).size) = iN B.length ∧ Kt [(8, .bool (decide (B.length ≠ 36))), (5, iN 0), (4, sB []), (2, pT bi), (1, sB B)] [(bi, .cells (cn .u8 D) 24)]) (by kernel_rfl) (fun _ => by kernel_rfl) (⟨(vI (bs_size _)), fun ac2 wd2 FF2 MM2 => then_n ?_⟩))
  by_cases hs8 : B.length ≠ 36
  · refine wp_cond_true ((FF2.ev 0 rfl).trans (dec_t hs8)) ?_
    refine wp_seq (rg_seq FF2 MM2 [o_, o_] [5, 4, 2, 1] (fun Kt => Kt [(5, iN 5), (4, sB []), (2, pT bi), (1, sB B)] [(bi, .cells (cn .u8 D) 24)]) (by kernel_rfl) (fun _ => by kernel_rfl) (fun ac3 wd3 FF3 MM3 => then_n ?_))
    refine wp_ret ?_
    repeat first | refine then_ret ?_ | refine inb_ret ?_
    exact (ret_tup2 FF3 1 0 Try.results13 rfl rfl ⟨by rw [requestR_no hs8], MM3.below⟩)
  · refine wp_cond_false ((FF2.ev 0 rfl).trans (dec_f hs8)) ?_
    refine wp_skip ?_
    refine then_n ?_
    refine wp_seq (rg_seq FF2 MM2 [o_, l_ 0 (sB D), o_, t_ (sB (D ++ B)), o_, o_] [5, 4, 1] (fun Kt => 0 ≤ 16 ∧ 16 ≤ 16 ∧ 0 < 16 ∧ bi = bi ∧ StrAt (cn .u8 D) 0 16 (bs D) ∧ (bs D).size + (bs B).size ≤ 9223372036854775807 ∧ Value.string (bs D ++ bs B) = sB (D ++ B) ∧ Kt [(5, iN 0), (4, sB (D ++ B)), (1, sB B)] [(bi, .cells (cn .u8 D) 24)]) (by kernel_rfl) (fun _ => by kernel_rfl) (⟨(by decide), (by decide), (by decide), rfl, (str_all hDl hD), (by simp only [bs_size]; omega), (vS2 (bs_app _ _)), fun ac4 wd4 FF4 MM4 => then_n ?_⟩))
    refine wp_ret ?_
    repeat first | refine then_ret ?_ | refine inb_ret ?_
    exact (ret_tup2 FF4 1 0 Try.results13 rfl rfl ⟨by rw [requestR_ok (Decidable.of_not_not hs8)], MM4.below⟩)
set_option maxRecDepth 100000 in
theorem parts_any (X : List Nat) (hX : ∀ i, X.getD i 0 < 256) (w0 : World) :
    Calls Try.prog 14 #[sB X] w0 fun e w' => e = .returned (.tuple #[.agg (cn .u8 (partsR X).1), .string (bs (partsR X).2.1), .bool (partsR X).2.2]) ∧ Below w0.heap.size w0 w' := by
  refine enter_fr Try.func14 rfl Try.ntmps14 (by simp) fun ac (FF : Fr 19 ac [(0, sB X)]) => ?_
  have MM := MemS.start w0
  refine wp_seq (rg_seq FF MM [o_, o_, o_] [0, 2, 3, 4] (fun Kt => ∀ br, Kt [(4, .bool false), (3, sB []), (2, pT br), (0, sB X)] [(br, .cells (cn .u8 (List.replicate 16 0)) 24)]) (by kernel_rfl) (fun _ => by kernel_rfl) (fun br => fun ac1 wd1 FF1 MM1 => then_n ?_))
  refine wp_seq ?_
  refine wp_seq (rg_seq FF1 MM1 [o_, t_ (iN X.length), o_] [4, 3, 2, 0, 9] (fun Kt => iN ((bs X).size) = iN X.length ∧ Kt [(9, .bool (decide (X.length ≠ 52))), (4, .bool false), (3, sB []), (2, pT br), (0, sB X)] [(br, .cells (cn .u8 (List.replicate 16 0)) 24)]) (by kernel_rfl) (fun _ => by kernel_rfl) (⟨(vI (bs_size _)), fun ac2 wd2 FF2 MM2 => then_n ?_⟩))
  by_cases hs9 : X.length ≠ 52
  · refine wp_cond_true ((FF2.ev 0 rfl).trans (dec_t hs9)) ?_
    refine wp_seq (rg_seq FF2 MM2 [o_, b_ 0, o_, o_] [4, 3, 2, 0] (fun Kt => br = br ∧ (cn .u8 (List.replicate 16 0)).size = 16 ∧ (cn .u8 (List.replicate 16 0)).size = 16 ∧ (cn .u8 (List.replicate 16 0)).all (·.oneCell') = true ∧ (0, 0).2 = 0 ∧ Kt [(4, .bool false), (3, sB []), (2, pT br), (0, sB X)] [(br, .cells (cn .u8 (List.replicate 16 0)) 24)]) (by kernel_rfl) (fun _ => by kernel_rfl) (⟨rfl, ((cn_size _ _).trans (List.length_replicate ..)), ((cn_size _ _).trans (List.length_replicate ..)), (cn_one _ _), rfl, fun ac3 wd3 FF3 MM3 => then_n ?_⟩))
    refine wp_ret ?_
    repeat first | refine then_ret ?_ | refine inb_ret ?_
    exact (ret_ctt FF3 MM3 (k := 16) (i := 0) (j := 2) (m := 1) (m2 := 0) Try.results14 rfl rfl rfl rfl Try.underlying24 rfl (by kernel_rfl) ((cn_size _ _).trans (List.length_replicate ..)) ⟨by rw [partsR_no hs9], MM3.below⟩)
  · refine wp_cond_false ((FF2.ev 0 rfl).trans (dec_f hs9)) ?_
    have h52 : X.length = 52 := Decidable.of_not_not hs9
    refine wp_skip ?_
    refine then_n ?_
    refine wp_seq (rg_seq FF2 MM2 [o_] [4, 3, 2, 0, 5] (fun Kt => ∀ bi, Kt [(5, pT bi), (4, .bool false), (3, sB []), (2, pT br), (0, sB X)] [(bi, .cells (cn .u8 (List.replicate 16 0)) 24), (br, .cells (cn .u8 (List.replicate 16 0)) 24)]) (by kernel_rfl) (fun _ => by kernel_rfl) (fun bi => fun ac4 wd4 FF4 MM4 => then_n ?_))
    refine wp_seq (rg_seq FF4 MM4 [o_, o_, r_ (iN 16) [(0, .cells (cn .u8 (X.take 16)) 24)], o_] [5, 4, 3, 2, 0, 6] (fun Kt => 0 ≤ 16 ∧ 16 ≤ 16 ∧ 0 < 16 ∧ RunU Try.prog [(12, sB X), (11, .slice (some ⟨bi, 0, none⟩) 16 16), (5, pT bi), (4, .bool false), (3, sB []), (2, pT br), (0, sB X)] [(bi, .cells (cn .u8 (List.replicate 16 0)) 24), (br, .cells (cn .u8 (List.replicate 16 0)) 24)] (opAt Try.f14 4 2) (iN 16) [(0, .cells (cn .u8 (X.take 16)) 24)] ∧ Kt [(6, iN 16), (5, pT bi), (4, .bool false), (3, sB []), (2, pT br), (0, sB X)] [(bi, .cells (cn .u8 (X.take 16)) 24), (br, .cells (cn .u8 (List.replicate 16 0)) 24)]) (by kernel_rfl) (fun _ => by kernel_rfl) (⟨(by decide), (by decide), (by decide), (by have h0 := copyStr_ok (P := Try.prog) (l := [(12, sB X), (11, .slice (some ⟨bi, 0, none⟩) 16 16), (5, pT bi), (4, .bool false), (3, sB []), (2, pT br), (0, sB X)]) (L := [(bi, .cells (cn .u8 (List.replicate 16 0)) 24), (br, .cells (cn .u8 (List.replicate 16 0)) 24)]) (o := opAt Try.f14 4 2) (p := .tmp 11) (q := .tmp 12) (t := 40) (tq := 9) (e := 5) (T := 24) (off := 0) (len := 16) (X := X) (cs := cn .u8 (List.replicate 16 0)) (i := 0) (by kernel_rfl) rfl rfl hX Try.underlying40 (by kernel_rfl) rfl (by rw [cn_size, List.length_replicate]; decide) (parts_cells h52); rw [show min X.length 16 = 16 by omega] at h0; exact h0), fun ac5 wd5 FF5 MM5 => then_n ?_⟩))
    refine wp_seq (rg_draw FF5 MM5 [.inl (.agg (cn .u8 (X.take 16))), .inl (sB X), .inl (iN 16), .inl (sB (X.drop 16)), .inl (sB (X.drop 16))] [] [b_ 0, o_, o_, t_ (sB (X.drop 16)), t_ (sB (X.drop 16))] [b_ 1, o_, o_] [5, 4, 3, 2, 0] (fun nb => [bi = bi, (cn .u8 (X.take 16)).size = 16, 16 ≤ (bs X).size, 0 ≤ (bs X).size, Value.string ((bs X).extract 16 (bs X).size) = sB (X.drop 16), CallP Try.prog 26 [sB (X.drop 16)] [] (sB (X.drop 16))]) (fun nb Kt => br = br ∧ (cn .u8 (List.replicate 16 0)).size = 16 ∧ (cn .u8 (X.take 16)).size = 16 ∧ (cn .u8 (X.take 16)).all (·.oneCell') = true ∧ (0, 0).2 = 0 ∧ Kt [(4, .bool true), (3, sB (X.drop 16)), (5, pT bi), (2, pT br), (0, sB X)] [(bi, .cells (cn .u8 (X.take 16)) 24), (br, .cells (cn .u8 (X.take 16)) 24)]) (by kernel_rfl) (by kernel_rfl) (by kernel_rfl) (fun _ => by kernel_rfl) (fun _ _ => by kernel_rfl) trivial (fun nb => ⟨rfl, ((cn_size _ _).trans (by rw [List.length_take, h52]; rfl)), (by simp only [bs_size]; omega), (Nat.zero_le _), (vS2 (bs_from _ _)), (callP_of en_clone (clone_any (X.drop 16) (drop_lt hX) (by rw [List.length_drop]; omega)) _), trivial⟩) (fun nb => ⟨rfl, ((cn_size _ _).trans (List.length_replicate ..)), ((cn_size _ _).trans (by rw [List.length_take, h52]; rfl)), (cn_one _ _), rfl, fun ac6 wd6 FF6 MM6 => then_n ?_⟩))
    refine wp_ret ?_
    repeat first | refine then_ret ?_ | refine inb_ret ?_
    exact (ret_ctt FF6 MM6 (k := 16) (i := 1) (j := 3) (m := 1) (m2 := 0) Try.results14 rfl rfl rfl rfl Try.underlying24 rfl (by kernel_rfl) ((cn_size _ _).trans (by rw [List.length_take, h52]; rfl)) ⟨by rw [partsR_ok h52], MM6.below⟩)
set_option maxRecDepth 100000 in
theorem rparts_any (X : List Nat) (hX : ∀ i, X.getD i 0 < 256) (w0 : World) :
    Calls Try.prog 15 #[sB X] w0 fun e w' => e = .returned (.tuple #[.agg (cn .u8 (partsR X).1), .string (bs (partsR X).2.1), .bool (partsR X).2.2]) ∧ Below w0.heap.size w0 w' := by
  refine enter_fr Try.func15 rfl Try.ntmps15 (by simp) fun ac (FF : Fr 17 ac [(0, sB X)]) => ?_
  have MM := MemS.start w0
  refine wp_seq (rg_seq FF MM [o_, o_, o_] [0, 2, 3, 4] (fun Kt => ∀ br, Kt [(4, .bool false), (3, sB []), (2, pT br), (0, sB X)] [(br, .cells (cn .u8 (List.replicate 16 0)) 23)]) (by kernel_rfl) (fun _ => by kernel_rfl) (fun br => fun ac1 wd1 FF1 MM1 => then_n ?_))
  refine wp_seq (rg_seq FF1 MM1 [o_, o_, b_ 0] [4, 3, 2, 0, 5] (fun Kt => ∀ bi, bi = bi ∧ (cn .u8 (List.replicate 16 0)).size = 16 ∧ (cn .u8 (List.replicate 16 0)).size = 16 ∧ (cn .u8 (List.replicate 16 0)).all (·.oneCell') = true ∧ (0, 0).2 = 0 ∧ Kt [(5, pT bi), (4, .bool false), (3, sB []), (2, pT br), (0, sB X)] [(bi, .cells (cn .u8 (List.replicate 16 0)) 23), (br, .cells (cn .u8 (List.replicate 16 0)) 23)]) (by kernel_rfl) (fun _ => by kernel_rfl) (fun bi => ⟨rfl, ((cn_size _ _).trans (List.length_replicate ..)), ((cn_size _ _).trans (List.length_replicate ..)), (cn_one _ _), rfl, fun ac2 wd2 FF2 MM2 => then_n ?_⟩))
  refine wp_seq ?_
  refine wp_seq (rg_seq FF2 MM2 [o_, t_ (iN X.length), o_] [5, 4, 3, 2, 0, 9] (fun Kt => iN ((bs X).size) = iN X.length ∧ Kt [(9, .bool (decide (X.length ≠ 52))), (5, pT bi), (4, .bool false), (3, sB []), (2, pT br), (0, sB X)] [(bi, .cells (cn .u8 (List.replicate 16 0)) 23), (br, .cells (cn .u8 (List.replicate 16 0)) 23)]) (by kernel_rfl) (fun _ => by kernel_rfl) (⟨(vI (bs_size _)), fun ac3 wd3 FF3 MM3 => then_n ?_⟩))
  by_cases hs9 : X.length ≠ 52
  · refine wp_cond_true ((FF3.ev 0 rfl).trans (dec_t hs9)) ?_
    refine wp_seq (rg_seq FF3 MM3 [b_ 0, b_ 1, o_, o_] [5, 4, 3, 2, 0] (fun Kt => bi = bi ∧ (cn .u8 (List.replicate 16 0)).size = 16 ∧ br = br ∧ (cn .u8 (List.replicate 16 0)).size = 16 ∧ (cn .u8 (List.replicate 16 0)).size = 16 ∧ (cn .u8 (List.replicate 16 0)).all (·.oneCell') = true ∧ (0, 0).2 = 0 ∧ Kt [(4, .bool false), (3, sB []), (5, pT bi), (2, pT br), (0, sB X)] [(bi, .cells (cn .u8 (List.replicate 16 0)) 23), (br, .cells (cn .u8 (List.replicate 16 0)) 23)]) (by kernel_rfl) (fun _ => by kernel_rfl) (⟨rfl, ((cn_size _ _).trans (List.length_replicate ..)), rfl, ((cn_size _ _).trans (List.length_replicate ..)), ((cn_size _ _).trans (List.length_replicate ..)), (cn_one _ _), rfl, fun ac4 wd4 FF4 MM4 => then_n ?_⟩))
    refine wp_ret ?_
    repeat first | refine then_ret ?_ | refine inb_ret ?_
    exact (ret_ctt FF4 MM4 (k := 16) (i := 1) (j := 3) (m := 1) (m2 := 0) Try.results15 rfl rfl rfl rfl Try.underlying23 rfl (by kernel_rfl) ((cn_size _ _).trans (List.length_replicate ..)) ⟨by rw [partsR_no hs9], MM4.below⟩)
  · refine wp_cond_false ((FF3.ev 0 rfl).trans (dec_f hs9)) ?_
    have h52 : X.length = 52 := Decidable.of_not_not hs9
    refine wp_skip ?_
    refine then_n ?_
    refine wp_seq (rg_seq FF3 MM3 [o_, o_, r_ (iN 16) [(0, .cells (cn .u8 (X.take 16)) 23)]] [5, 4, 3, 2, 0] (fun Kt => 0 ≤ 16 ∧ 16 ≤ 16 ∧ 0 < 16 ∧ RunU Try.prog [(12, sB X), (11, .slice (some ⟨bi, 0, none⟩) 16 16), (9, .bool (decide (X.length ≠ 52))), (5, pT bi), (4, .bool false), (3, sB []), (2, pT br), (0, sB X)] [(bi, .cells (cn .u8 (List.replicate 16 0)) 23), (br, .cells (cn .u8 (List.replicate 16 0)) 23)] (opAt Try.f15 4 2) (iN 16) [(0, .cells (cn .u8 (X.take 16)) 23)] ∧ Kt [(5, pT bi), (4, .bool false), (3, sB []), (2, pT br), (0, sB X)] [(bi, .cells (cn .u8 (X.take 16)) 23), (br, .cells (cn .u8 (List.replicate 16 0)) 23)]) (by kernel_rfl) (fun _ => by kernel_rfl) (⟨(by decide), (by decide), (by decide), (by have h0 := copyStr_ok (P := Try.prog) (l := [(12, sB X), (11, .slice (some ⟨bi, 0, none⟩) 16 16), (9, .bool (decide (X.length ≠ 52))), (5, pT bi), (4, .bool false), (3, sB []), (2, pT br), (0, sB X)]) (L := [(bi, .cells (cn .u8 (List.replicate 16 0)) 23), (br, .cells (cn .u8 (List.replicate 16 0)) 23)]) (o := opAt Try.f15 4 2) (p := .tmp 11) (q := .tmp 12) (t := 40) (tq := 9) (e := 5) (T := 23) (off := 0) (len := 16) (X := X) (cs := cn .u8 (List.replicate 16 0)) (i := 0) (by kernel_rfl) rfl rfl hX Try.underlying40 (by kernel_rfl) rfl (by rw [cn_size, List.length_replicate]; decide) (parts_cells h52); rw [show min X.length 16 = 16 by omega] at h0; exact h0), fun ac5 wd5 FF5 MM5 => then_n ?_⟩))
    refine wp_mid (fun a' w' => Fr 17 a' [(5, pT bi), (4, .bool true), (3, sB (X.drop 16)), (2, pT br), (0, sB X)] ∧ MemS (fun k => k < w0.heap.size) w0 w' [(bi, .cells (cn .u8 (X.take 16)) 23), (br, .cells (cn .u8 (X.take 16)) 23)] []) ?_ ?_
    · skip
      refine draw_open (N := 6) (by kernel_rfl) (by kernel_rfl) MM5 fun wq6 (MM7 : MemS (fun k => k < w0.heap.size) w0 wq6 [(bi, .cells (cn .u8 (X.take 16)) 23), (br, .cells (cn .u8 (List.replicate 16 0)) 23)] []) => ?_
      refine take_op FF5 (i := 1) (oi := (opAt Try.f15 5 1)) (v := (sB X)) (d := 15) (by kernel_rfl) (by kernel_rfl) (by kernel_rfl) (by kernel_rfl) (fun _ _ _ _ _ h => h) (by kernel_rfl) (by decide) (by kernel_rfl) (mvV (x := (.tmp 0)) (by kernel_rfl) rfl) fun ac8 FF8 => ?_
      refine any_two (i := 0) (oi := (opAt Try.f15 5 0)) (j := 2) (oj := (opAt Try.f15 5 2)) (by kernel_rfl) (by kernel_rfl) (by kernel_rfl) ?_ ?_
      · skip
        refine rg_part 1 FF8 MM7 [b_ 0] [15, 5, 4, 3, 2, 0, 14] (fun Kt => bi = bi ∧ (cn .u8 (X.take 16)).size = 16 ∧ Kt [(14, .agg (cn .u8 (X.take 16))), (15, sB X), (5, pT bi), (4, .bool false), (3, sB []), (2, pT br), (0, sB X)] [(bi, .cells (cn .u8 (X.take 16)) 23), (br, .cells (cn .u8 (List.replicate 16 0)) 23)]) (by kernel_rfl) (fun _ => by kernel_rfl) (⟨rfl, ((cn_size _ _).trans (by rw [List.length_take, h52]; rfl)), fun ac9 wd9 FF9 MM9 => ?_⟩)
        refine wpl_nil (onN_n ?_)
        refine any_two (i := 2) (oi := (opAt Try.f15 5 2)) (j := 3) (oj := (opAt Try.f15 5 3)) (by kernel_rfl) (by kernel_rfl) (by kernel_rfl) ?_ ?_
        · skip
          refine rg_part 1 FF9 MM9 [t_ (sB (X.drop 16))] [14, 5, 4, 3, 2, 0, 16] (fun Kt => 16 ≤ (bs X).size ∧ 0 ≤ (bs X).size ∧ Value.string ((bs X).extract 16 (bs X).size) = sB (X.drop 16) ∧ Kt [(16, sB (X.drop 16)), (14, .agg (cn .u8 (X.take 16))), (5, pT bi), (4, .bool false), (3, sB []), (2, pT br), (0, sB X)] [(bi, .cells (cn .u8 (X.take 16)) 23), (br, .cells (cn .u8 (List.replicate 16 0)) 23)]) (by kernel_rfl) (fun _ => by kernel_rfl) (⟨(by simp only [bs_size]; omega), (Nat.zero_le _), (vS2 (bs_from _ _)), fun ac10 wd10 FF10 MM10 => ?_⟩)
          refine wpl_nil (onN_n ?_)
          refine any_one (i := 3) (o := (opAt Try.f15 5 3)) (by kernel_rfl) (by kernel_rfl) ?_
          refine rg_part 1 FF10 MM10 [b_ 1] [16, 5, 4, 3, 2, 0] (fun Kt => br = br ∧ (cn .u8 (List.replicate 16 0)).size = 16 ∧ (cn .u8 (X.take 16)).size = 16 ∧ (cn .u8 (X.take 16)).all (·.oneCell') = true ∧ (0, 0).2 = 0 ∧ Kt [(16, sB (X.drop 16)), (5, pT bi), (4, .bool false), (3, sB []), (2, pT br), (0, sB X)] [(bi, .cells (cn .u8 (X.take 16)) 23), (br, .cells (cn .u8 (X.take 16)) 23)]) (by kernel_rfl) (fun _ => by kernel_rfl) (⟨rfl, ((cn_size _ _).trans (List.length_replicate ..)), ((cn_size _ _).trans (by rw [List.length_take, h52]; rfl)), (cn_one _ _), rfl, fun ac11 wd11 FF11 MM11 => ?_⟩)
          refine wpl_nil (onN_n ?_)
          refine any_one (i := 4) (o := (opAt Try.f15 5 4)) (by kernel_rfl) (by kernel_rfl) ?_
          refine rg_part 1 FF11 MM11 [o_] [5, 4, 3, 2, 0] (fun Kt => Kt [(3, sB (X.drop 16)), (5, pT bi), (4, .bool false), (2, pT br), (0, sB X)] [(bi, .cells (cn .u8 (X.take 16)) 23), (br, .cells (cn .u8 (X.take 16)) 23)]) (by kernel_rfl) (fun _ => by kernel_rfl) (fun ac12 wd12 FF12 MM12 => ?_)
          refine wpl_nil (onN_n ?_)
          refine any_one (i := 5) (o := (opAt Try.f15 5 5)) (by kernel_rfl) (by kernel_rfl) ?_
          refine rg_part 1 FF12 MM12 [o_] [5, 4, 3, 2, 0] (fun Kt => Kt [(4, .bool true), (3, sB (X.drop 16)), (5, pT bi), (2, pT br), (0, sB X)] [(bi, .cells (cn .u8 (X.take 16)) 23), (br, .cells (cn .u8 (X.take 16)) 23)]) (by kernel_rfl) (fun _ => by kernel_rfl) (fun ac13 wd13 FF13 MM13 => ?_)
          refine wpl_nil (onN_n ?_)
          refine any_none (by kernel_rfl) (then_n ?_)
          exact ⟨FF13.pick [2, 0, 1, 3, 4], MM13⟩
        · skip
          refine rg_part 1 FF9 MM9 [b_ 1] [15, 5, 4, 3, 2, 0] (fun Kt => br = br ∧ (cn .u8 (List.replicate 16 0)).size = 16 ∧ (cn .u8 (X.take 16)).size = 16 ∧ (cn .u8 (X.take 16)).all (·.oneCell') = true ∧ (0, 0).2 = 0 ∧ Kt [(15, sB X), (5, pT bi), (4, .bool false), (3, sB []), (2, pT br), (0, sB X)] [(bi, .cells (cn .u8 (X.take 16)) 23), (br, .cells (cn .u8 (X.take 16)) 23)]) (by kernel_rfl) (fun _ => by kernel_rfl) (⟨rfl, ((cn_size _ _).trans (List.length_replicate ..)), ((cn_size _ _).trans (by rw [List.length_take, h52]; rfl)), (cn_one _ _), rfl, fun ac14 wd14 FF14 MM14 => ?_⟩)
          refine wpl_nil (onN_n ?_)
          refine any_one (i := 2) (o := (opAt Try.f15 5 2)) (by kernel_rfl) (by kernel_rfl) ?_
          refine rg_part 1 FF14 MM14 [t_ (sB (X.drop 16))] [5, 4, 3, 2, 0, 16] (fun Kt => 16 ≤ (bs X).size ∧ 0 ≤ (bs X).size ∧ Value.string ((bs X).extract 16 (bs X).size) = sB (X.drop 16) ∧ Kt [(16, sB (X.drop 16)), (5, pT bi), (4, .bool false), (3, sB []), (2, pT br), (0, sB X)] [(bi, .cells (cn .u8 (X.take 16)) 23), (br, .cells (cn .u8 (X.take 16)) 23)]) (by kernel_rfl) (fun _ => by kernel_rfl) (⟨(by simp only [bs_size]; omega), (Nat.zero_le _), (vS2 (bs_from _ _)), fun ac15 wd15 FF15 MM15 => ?_⟩)
          refine wpl_nil (onN_n ?_)
          refine any_one (i := 4) (o := (opAt Try.f15 5 4)) (by kernel_rfl) (by kernel_rfl) ?_
          refine rg_part 1 FF15 MM15 [o_] [5, 4, 3, 2, 0] (fun Kt => Kt [(3, sB (X.drop 16)), (5, pT bi), (4, .bool false), (2, pT br), (0, sB X)] [(bi, .cells (cn .u8 (X.take 16)) 23), (br, .cells (cn .u8 (X.take 16)) 23)]) (by kernel_rfl) (fun _ => by kernel_rfl) (fun ac16 wd16 FF16 MM16 => ?_)
          refine wpl_nil (onN_n ?_)
          refine any_one (i := 5) (o := (opAt Try.f15 5 5)) (by kernel_rfl) (by kernel_rfl) ?_
          refine rg_part 1 FF16 MM16 [o_] [5, 4, 3, 2, 0] (fun Kt => Kt [(4, .bool true), (3, sB (X.drop 16)), (5, pT bi), (2, pT br), (0, sB X)] [(bi, .cells (cn .u8 (X.take 16)) 23), (br, .cells (cn .u8 (X.take 16)) 23)]) (by kernel_rfl) (fun _ => by kernel_rfl) (fun ac17 wd17 FF17 MM17 => ?_)
          refine wpl_nil (onN_n ?_)
          refine any_none (by kernel_rfl) (then_n ?_)
          exact ⟨FF17.pick [2, 0, 1, 3, 4], MM17⟩
      · skip
        refine rg_part 1 FF8 MM7 [t_ (sB (X.drop 16))] [5, 4, 3, 2, 0, 16] (fun Kt => 16 ≤ (bs X).size ∧ 0 ≤ (bs X).size ∧ Value.string ((bs X).extract 16 (bs X).size) = sB (X.drop 16) ∧ Kt [(16, sB (X.drop 16)), (5, pT bi), (4, .bool false), (3, sB []), (2, pT br), (0, sB X)] [(bi, .cells (cn .u8 (X.take 16)) 23), (br, .cells (cn .u8 (List.replicate 16 0)) 23)]) (by kernel_rfl) (fun _ => by kernel_rfl) (⟨(by simp only [bs_size]; omega), (Nat.zero_le _), (vS2 (bs_from _ _)), fun ac18 wd18 FF18 MM18 => ?_⟩)
        refine wpl_nil (onN_n ?_)
        refine any_one (i := 0) (o := (opAt Try.f15 5 0)) (by kernel_rfl) (by kernel_rfl) ?_
        refine rg_part 1 FF18 MM18 [b_ 0] [16, 5, 4, 3, 2, 0, 14] (fun Kt => bi = bi ∧ (cn .u8 (X.take 16)).size = 16 ∧ Kt [(14, .agg (cn .u8 (X.take 16))), (16, sB (X.drop 16)), (5, pT bi), (4, .bool false), (3, sB []), (2, pT br), (0, sB X)] [(bi, .cells (cn .u8 (X.take 16)) 23), (br, .cells (cn .u8 (List.replicate 16 0)) 23)]) (by kernel_rfl) (fun _ => by kernel_rfl) (⟨rfl, ((cn_size _ _).trans (by rw [List.length_take, h52]; rfl)), fun ac19 wd19 FF19 MM19 => ?_⟩)
        refine wpl_nil (onN_n ?_)
        refine any_one (i := 3) (o := (opAt Try.f15 5 3)) (by kernel_rfl) (by kernel_rfl) ?_
        refine rg_part 1 FF19 MM19 [b_ 1] [16, 5, 4, 3, 2, 0] (fun Kt => br = br ∧ (cn .u8 (List.replicate 16 0)).size = 16 ∧ (cn .u8 (X.take 16)).size = 16 ∧ (cn .u8 (X.take 16)).all (·.oneCell') = true ∧ (0, 0).2 = 0 ∧ Kt [(16, sB (X.drop 16)), (5, pT bi), (4, .bool false), (3, sB []), (2, pT br), (0, sB X)] [(bi, .cells (cn .u8 (X.take 16)) 23), (br, .cells (cn .u8 (X.take 16)) 23)]) (by kernel_rfl) (fun _ => by kernel_rfl) (⟨rfl, ((cn_size _ _).trans (List.length_replicate ..)), ((cn_size _ _).trans (by rw [List.length_take, h52]; rfl)), (cn_one _ _), rfl, fun ac20 wd20 FF20 MM20 => ?_⟩)
        refine wpl_nil (onN_n ?_)
        refine any_one (i := 4) (o := (opAt Try.f15 5 4)) (by kernel_rfl) (by kernel_rfl) ?_
        refine rg_part 1 FF20 MM20 [o_] [5, 4, 3, 2, 0] (fun Kt => Kt [(3, sB (X.drop 16)), (5, pT bi), (4, .bool false), (2, pT br), (0, sB X)] [(bi, .cells (cn .u8 (X.take 16)) 23), (br, .cells (cn .u8 (X.take 16)) 23)]) (by kernel_rfl) (fun _ => by kernel_rfl) (fun ac21 wd21 FF21 MM21 => ?_)
        refine wpl_nil (onN_n ?_)
        refine any_one (i := 5) (o := (opAt Try.f15 5 5)) (by kernel_rfl) (by kernel_rfl) ?_
        refine rg_part 1 FF21 MM21 [o_] [5, 4, 3, 2, 0] (fun Kt => Kt [(4, .bool true), (3, sB (X.drop 16)), (5, pT bi), (2, pT br), (0, sB X)] [(bi, .cells (cn .u8 (X.take 16)) 23), (br, .cells (cn .u8 (X.take 16)) 23)]) (by kernel_rfl) (fun _ => by kernel_rfl) (fun ac22 wd22 FF22 MM22 => ?_)
        refine wpl_nil (onN_n ?_)
        refine any_none (by kernel_rfl) (then_n ?_)
        exact ⟨FF22.pick [2, 0, 1, 3, 4], MM22⟩
    · rintro ac23 wd23 ⟨FF23, MM23⟩
      refine wp_ret ?_
      repeat first | refine then_ret ?_ | refine inb_ret ?_
      exact (ret_ctt FF23 MM23 (k := 16) (i := 1) (j := 3) (m := 2) (m2 := 1) Try.results15 rfl rfl rfl rfl Try.underlying23 rfl (by kernel_rfl) ((cn_size _ _).trans (by rw [List.length_take, h52]; rfl)) ⟨by rw [partsR_ok h52], MM23.below⟩)
end Go.Proofs.Ytjpfdmkbmpecnaa
namespace Go.Proofs.Ytjpfdmkbmpecnaa
open Go.RowKit
theorem isL_of {k m : Nat} {X : List Nat} (h2 : 2 ≤ X.length) (hm : X.getD 0 0 + X.getD 1 0 * 256 = m) (h64 : m ≤ 64) (h : (X.drop 2).length = m * k) : IsL k X := by
  have h1 : X.getD 1 0 = 0 := by omega
  have h0 : X.getD 0 0 = m := by omega
  rw [List.length_drop] at h
  refine ⟨h2, h1, by omega, ?_⟩
  rw [h0, Nat.mul_comm]
  omega
theorem isL_drop {k n : Nat} {X : List Nat} (h : IsL k X) (hn : X.getD 0 0 = n) : (X.drop 2).length = n * k := by
  have := h.2.2.2
  rw [List.length_drop, this, hn, Nat.mul_comm]
  omega
theorem isL_sum {k n : Nat} {X : List Nat} (hX : ∀ i, X.getD i 0 < 256) (h : IsL k X) (hn : X.getD 0 0 = n) : X.getD 0 0 ||| X.getD 1 0 * 256 = n := by
  have h1 : X.getD 0 0 ||| X.getD 1 0 * 256 = X.getD 0 0 + X.getD 1 0 * 256 := or_shl 8 (hX 0)
  rw [h1, h.2.1, hn]
  omega
theorem item_cut (k : Nat) (X : List Nat) (i : Nat) : ((X.drop 2).take ((i + 1) * k)).drop (i * k) = itemAt (k : Nat) X i := by
  rw [itemAt_nat, List.drop_take, List.drop_drop, Nat.succ_mul, Nat.add_sub_cancel_left, Nat.mul_comm]
theorem upto_set (f : Nat → List Nat) (i j : Nat) : (if j = i then f i else if j < i then f j else []) = if j < i + 1 then f j else [] := by
  by_cases h : j = i
  · subst h; rw [if_pos rfl, if_pos (by omega)]
  · rw [if_neg h]
    by_cases h2 : j < i
    · rw [if_pos h2, if_pos (by omega)]
    · rw [if_neg h2, if_neg (by omega)]
theorem mul_fit {a b : Nat} (ha : a ≤ 65) (hb : b ≤ 256) : a * b < 9223372036854775808 := Nat.lt_of_le_of_lt (Nat.mul_le_mul ha hb) (by decide)
set_option maxRecDepth 100000 in
theorem areof_O (O : Blks) (hD : Distinct O) (p : Option Addr) (n c : Nat) (k : Nat) (s : Nat → List Nat) (hn : n ≤ 1000000) (b : Bool) (hb : b = true ↔ ∀ j, j < n → (s j).length = k) (hF : RowO O p n (fun k9 => sB (s k9))) (w0 : World) (H : Has w0 O) :
    Calls Try.prog 30 #[iN k, .slice p n c] w0 fun e w' => e = .returned (.bool b) ∧ Below w0.heap.size w0 w' := by
  refine enter_fr Try.func30 rfl Try.ntmps30 (by simp) fun ac (FF : Fr 18 ac [(0, iN k), (1, .slice p n c)]) => ?_
  have MM : MemS (fun k => k < w0.heap.size ∧ ∀ x ∈ O, x.1 ≠ k) w0 w0 O [] := MemS.startN H hD
  refine wp_seq (rg_seq FF MM [o_] [0, 1, 4] (fun Kt => Kt [(4, .bool false), (0, iN k), (1, .slice p n c)] O) (by kernel_rfl) (fun _ => by kernel_rfl) (fun ac1 wd1 FF1 MM1 => then_n ?_))
  refine wp_seq ?_
  refine wp_seq (rg_seq FF1 MM1 [o_, o_, o_] [4, 0, 7, 8, 9] (fun Kt => Kt [(9, iN 0), (8, iN n), (7, .slice p n c), (4, .bool false), (0, iN k)] O) (by kernel_rfl) (fun _ => by kernel_rfl) (fun ac2 wd2 FF2 MM2 => then_n ?_))
  refine wp_for (fun a' w' => ∃ i : Nat, i ≤ n ∧ (∀ j, j < i → (s j).length = k) ∧ Fr 18 a' [(9, iN i), (8, iN n), (7, .slice p n c), (0, iN k)] ∧ MemS (fun k => k < w0.heap.size ∧ ∀ x ∈ O, x.1 ≠ k) w0 w' O []) (fun a' _ => (n - cnt 9 a').toNat) ⟨0, Nat.zero_le _, (fun j hj => absurd hj (Nat.not_lt_zero _)), FF2.pick [0, 1, 2, 4], MM2⟩ ?_
  rintro ac3 wd3 ⟨i, hi, hA, FF3, MM3⟩
  have hc := cnt_of (FF3.get 0 rfl)
  refine rg_seq FF3 MM3 [o_] [9, 8, 7, 0, 10] (fun Kt => Kt [(10, .bool (decide (i < n))), (9, iN i), (8, iN n), (7, .slice p n c), (0, iN k)] O) (by kernel_rfl) (fun _ => by kernel_rfl) (fun ac4 wd4 FF4 MM4 => ?_)
  by_cases hlt : i < n
  · skip
    refine then_n (.inl ⟨(FF4.ev 0 rfl).trans (dec_t hlt), ?_⟩)
    refine wp_seq (rg_seq FF4 MM4 [f_ (.pointer (some ⟨gOf p, oOf p + i, none⟩)), f_ (sB (s i)), o_] [9, 8, 7, 0, 6] (fun Kt => RunV Try.prog [(10, .bool (decide (i < n))), (9, iN i), (8, iN n), (7, .slice p n c), (0, iN k)] O (opAt Try.f30 3 0) (.pointer (some ⟨gOf p, oOf p + i, none⟩)) ∧ RunV Try.prog [(11, .pointer (some ⟨gOf p, oOf p + i, none⟩)), (10, .bool (decide (i < n))), (9, iN i), (8, iN n), (7, .slice p n c), (0, iN k)] O (opAt Try.f30 3 1) (sB (s i)) ∧ Kt [(6, sB (s i)), (9, iN i), (8, iN n), (7, .slice p n c), (0, iN k)] O) (by kernel_rfl) (fun _ => by kernel_rfl) (⟨(rowX_addr (x := (.tmp 7)) (y := (.tmp 9)) (k := 1) (i := i) (by kernel_rfl) rfl rfl Try.underlying26 (by kernel_rfl) hF (by omega) (by omega)), (rowX_load (x := (.tmp 11)) (j := i) (by kernel_rfl) rfl Try.underlying9 rfl hF (fun _ hx => hx) (by omega) rfl), fun ac5 wd5 FF5 MM5 => then_n ?_⟩))
    refine wp_seq (rg_seq FF5 MM5 [o_, t_ (iN ((s i).length)), o_, o_] [6, 9, 8, 7, 0, 16] (fun Kt => iN ((bs (s i)).size) = iN ((s i).length) ∧ Kt [(16, .bool (decide (((s i).length) ≠ k))), (6, sB (s i)), (9, iN i), (8, iN n), (7, .slice p n c), (0, iN k)] O) (by kernel_rfl) (fun _ => by kernel_rfl) (⟨(vI (bs_size _)), fun ac6 wd6 FF6 MM6 => then_n ?_⟩))
    by_cases hs16 : ((s i).length) ≠ k
    · refine wp_cond_true ((FF6.ev 0 rfl).trans (dec_t hs16)) ?_
      refine wp_seq (rg_seq FF6 MM6 [o_] [6, 9, 8, 7, 0, 4] (fun Kt => Kt [(4, .bool false), (6, sB (s i)), (9, iN i), (8, iN n), (7, .slice p n c), (0, iN k)] O) (by kernel_rfl) (fun _ => by kernel_rfl) (fun ac7 wd7 FF7 MM7 => then_n ?_))
      refine wp_ret ?_
      repeat first | refine then_ret ?_ | refine inb_ret ?_
      exact (ret_fr FF7 0 Try.results30 rfl ⟨congrArg (fun b => Ending.returned (Value.bool b)) (Bool.eq_false_iff.2 (fun h => hs16 (hb.1 h i hlt))).symm, MM7.belowN H (fun _ hx => hx)⟩)
    · refine wp_cond_false ((FF6.ev 0 rfl).trans (dec_f hs16)) ?_
      refine wp_skip ?_
      refine inb_n (then_n ?_)
      refine rg_seq FF6 MM6 [o_, o_] [6, 9, 8, 7, 0] (fun Kt => i + 1 < 9223372036854775808 ∧ Kt [(9, iN (i + 1)), (6, sB (s i)), (8, iN n), (7, .slice p n c), (0, iN k)] O) (by kernel_rfl) (fun _ => by kernel_rfl) (⟨(by omega), fun ac8 wd8 FF8 MM8 => ?_⟩)
      have hd := cnt_of (FF8.get 0 rfl)
      refine then_n ⟨⟨i + 1, by omega, (fun j hj => (Nat.lt_or_ge j i).elim (hA j) (fun h => (show i = j by omega) ▸ Decidable.of_not_not hs16)), FF8.pick [0, 2, 3, 4], MM8⟩, ?_⟩
      rw [hc, hd]; omega
  · skip
    refine then_n (.inr ⟨(FF4.ev 0 rfl).trans (dec_f hlt), ?_⟩)
    obtain rfl : n = i := by omega
    refine then_n ?_
    refine wp_seq (rg_seq FF4 MM4 [o_] [9, 8, 7, 0, 4] (fun Kt => Kt [(4, .bool true), (9, iN n), (8, iN n), (7, .slice p n c), (0, iN k)] O) (by kernel_rfl) (fun _ => by kernel_rfl) (fun ac9 wd9 FF9 MM9 => then_n ?_))
    refine wp_ret ?_
    repeat first | refine then_ret ?_ | refine inb_ret ?_
    exact (ret_fr FF9 0 Try.results30 rfl ⟨congrArg (fun b => Ending.returned (Value.bool b)) (hb.2 hA).symm, MM9.belowN H (fun _ hx => hx)⟩)
theorem areof_w (p : Option Addr) (n c : Nat) (k : Nat) (s : Nat → List Nat) (hn : n ≤ 1000000) (b : Bool) (hb : b = true ↔ ∀ j, j < n → (s j).length = k) (w : World) (hF : RowIn w p n (fun k9 => sB (s k9))) :
    Calls Try.prog 30 #[iN k, .slice p n c] w fun e w' => e = .returned (.bool b) ∧ Below w.heap.size w w' := by
  obtain ⟨O, h1, h2, h3⟩ := row_O hF
  exact areof_O O h2 p n c k s hn b hb h3 w h1
set_option maxRecDepth 100000 in
theorem count_any (n : Nat) (hn : n ≤ 64) (w0 : World) :
    Calls Try.prog 31 #[iN n] w0 fun e w' => e = .returned (sB [n, 0]) ∧ Below w0.heap.size w0 w' := by
  refine enter_fr Try.func31 rfl Try.ntmps31 (by simp) fun ac (FF : Fr 10 ac [(0, iN n)]) => ?_
  have MM := MemS.start w0
  have h2b : ∀ i, [n, 0].getD i 0 < 256 := cons_lt (by omega) (lit_lt (by kernel_rfl))
  refine wp_seq (rg_seq FF MM [o_] [0, 2] (fun Kt => Kt [(2, sB []), (0, iN n)] []) (by kernel_rfl) (fun _ => by kernel_rfl) (fun ac1 wd1 FF1 MM1 => then_n ?_))
  refine wp_seq (rg_seq FF1 MM1 [o_, t_ (iB n), o_, o_, t_ (iB 0), o_, l_ 0 (sB ([n, 0])), o_] [2] (fun Kt => iB (n % 256) = iB n ∧ 8 ≤ 64 ∧ iB ((n / 256) % 256) = iB 0 ∧ ∀ b1, b1 = b1 ∧ StrAt (cn .u8 ([n, 0])) 0 2 (bs ([n, 0])) ∧ Kt [(2, sB ([n, 0]))] [(b1, .cells (cn .u8 ([n, 0])) 5)]) (by kernel_rfl) (fun _ => by kernel_rfl) (⟨(vI (Nat.mod_eq_of_lt (by omega))), (by decide), (vI (by omega)), fun b1 => ⟨rfl, (str_all rfl h2b), fun ac2 wd2 FF2 MM2 => then_n ?_⟩⟩))
  refine wp_ret ?_
  repeat first | refine then_ret ?_ | refine inb_ret ?_
  exact (ret_fr FF2 0 Try.results31 rfl ⟨rfl, MM2.below⟩)
set_option maxRecDepth 100000 in
theorem list_natO (O : Blks) (hD : Distinct O) (p : Option Addr) (n c : Nat) (s : Nat → List Nat) (hn : n ≤ 1000000) (hc : n ≤ c) (k : Nat) (h1 : 1 ≤ k) (h2 : k ≤ 256) (hF : RowO O p n (fun k9 => sB (s k9))) (w0 : World) (H : Has w0 O) :
    Calls Try.prog 20 #[iN k, .slice p n c] w0 fun e w' => e = .returned (.tuple #[.string (bs (listR (k : Nat) n s).1), iN ((listR (k : Nat) n s).2)]) ∧ Below w0.heap.size w0 w' := by
  refine enter_fr Try.func20 rfl Try.ntmps20 (by simp) fun ac (FF : Fr 25 ac [(0, iN k), (1, .slice p n c)]) => ?_
  have MM : MemS (fun k => k < w0.heap.size ∧ ∀ x ∈ O, x.1 ≠ k) w0 w0 O [] := MemS.startN H hD
  refine wp_seq (rg_seq FF MM [o_, o_] [0, 1, 4, 5] (fun Kt => Kt [(5, iN 0), (4, sB []), (0, iN k), (1, .slice p n c)] O) (by kernel_rfl) (fun _ => by kernel_rfl) (fun ac1 wd1 FF1 MM1 => then_n ?_))
  refine wp_seq ?_
  refine wp_block ?_
  refine wp_seq (rg_seq FF1 MM1 [o_, t_ (.bool true), o_, o_] [5, 4, 0, 1, 6] (fun Kt => CallP Try.prog 29 [iN k] [] (.bool true) ∧ Kt [(6, .bool false), (5, iN 0), (4, sB []), (0, iN k), (1, .slice p n c)] O) (by kernel_rfl) (fun _ => by kernel_rfl) (⟨(callP_of en_maysz (maysz_yes k (by omega) (by omega)) _), fun ac2 wd2 FF2 MM2 => then_n ?_⟩))
  refine wp_cond_false (FF2.ev 0 rfl) ?_
  refine wp_seq (rg_seq FF2 MM2 [o_, o_, o_, o_] [5, 4, 0, 1, 10] (fun Kt => Kt [(10, .bool (decide (n > 64))), (5, iN 0), (4, sB []), (0, iN k), (1, .slice p n c)] O) (by kernel_rfl) (fun _ => by kernel_rfl) (fun ac3 wd3 FF3 MM3 => then_n ?_))
  by_cases hs10 : n > 64
  · refine wp_cond_true ((FF3.ev 0 rfl).trans (dec_t hs10)) ?_
    refine wp_seq (rg_seq FF3 MM3 [o_, o_] [5, 4, 0, 1] (fun Kt => Kt [(5, iN 6), (4, sB []), (0, iN k), (1, .slice p n c)] O) (by kernel_rfl) (fun _ => by kernel_rfl) (fun ac4 wd4 FF4 MM4 => then_n ?_))
    refine wp_ret ?_
    repeat first | refine then_ret ?_ | refine inb_ret ?_
    exact (ret_tup2 FF4 1 0 Try.results20 rfl rfl ⟨by rw [listR_many h1 h2 hs10], MM4.belowN H (fun _ hx => hx)⟩)
  · refine wp_cond_false ((FF3.ev 0 rfl).trans (dec_f hs10)) ?_
    by_cases hA : ∀ i, i < n → (s i).length = k
    · skip
      refine wp_seq (rg_seq FF3 MM3 [o_, o_, u_ 1 (.bool true), o_, o_] [5, 4, 0, 1, 14] (fun Kt => CallP Try.prog 30 [iN k, .slice p n c] O (.bool true) ∧ Kt [(14, .bool false), (5, iN 0), (4, sB []), (0, iN k), (1, .slice p n c)] O) (by kernel_rfl) (fun _ => by kernel_rfl) (⟨⟨en_areof, fun w Hw => areof_w p n c k (fun k9 => s k9) (by omega) true ⟨fun _ => hA, fun _ => rfl⟩ w (hF.at Hw)⟩, fun ac5 wd5 FF5 MM5 => then_n ?_⟩))
      refine wp_cond_false (FF5.ev 0 rfl) ?_
      refine wp_skip ?_
      refine inb_n ?_
      refine then_n ?_
      have hfl := flatF_len hA
      have hkn : k * n ≤ 256 * 64 := Nat.mul_le_mul h2 (by omega)
      refine wp_seq (rg_seq FF5 MM5 [o_, o_, t_ (sB ([n, 0])), o_, u_ 1 (sB (flatF s n)), t_ (sB (n :: 0 :: flatF s n)), o_, o_] [5, 4, 0, 1] (fun Kt => CallP Try.prog 31 [iN n] [] (sB ([n, 0])) ∧ CallP Try.prog 32 [.slice p n c, sB []] O (sB (flatF s n)) ∧ (bs ([n, 0])).size + (bs (flatF s n)).size ≤ 9223372036854775807 ∧ Value.string (bs ([n, 0]) ++ bs (flatF s n)) = sB (n :: 0 :: flatF s n) ∧ Kt [(5, iN 0), (4, sB (n :: 0 :: flatF s n)), (0, iN k), (1, .slice p n c)] O) (by kernel_rfl) (fun _ => by kernel_rfl) (⟨(callP_of en_count (count_any n (by omega)) _), ⟨en_join, fun w Hw => join_w p n c s (by omega) hc (by omega) w (hF.at Hw)⟩, (by simp only [bs_size, List.length_cons, List.length_nil]; omega), (vS2 (bs_app _ _)), fun ac6 wd6 FF6 MM6 => then_n ?_⟩))
      refine wp_ret ?_
      repeat first | refine then_ret ?_ | refine inb_ret ?_
      exact (ret_tup2 FF6 1 0 Try.results20 rfl rfl ⟨by rw [listR_ok h1 h2 (by omega) hA], MM6.belowN H (fun _ hx => hx)⟩)
    · skip
      refine wp_seq (rg_seq FF3 MM3 [o_, o_, u_ 1 (.bool false), o_, o_] [5, 4, 0, 1, 14] (fun Kt => CallP Try.prog 30 [iN k, .slice p n c] O (.bool false) ∧ Kt [(14, .bool true), (5, iN 0), (4, sB []), (0, iN k), (1, .slice p n c)] O) (by kernel_rfl) (fun _ => by kernel_rfl) (⟨⟨en_areof, fun w Hw => areof_w p n c k (fun k9 => s k9) (by omega) false ⟨fun h => (by cases h), fun h => (hA h).elim⟩ w (hF.at Hw)⟩, fun ac7 wd7 FF7 MM7 => then_n ?_⟩))
      refine wp_cond_true (FF7.ev 0 rfl) ?_
      refine wp_seq (rg_seq FF7 MM7 [o_, o_] [5, 4, 0, 1] (fun Kt => Kt [(5, iN 5), (4, sB []), (0, iN k), (1, .slice p n c)] O) (by kernel_rfl) (fun _ => by kernel_rfl) (fun ac8 wd8 FF8 MM8 => then_n ?_))
      refine wp_ret ?_
      repeat first | refine then_ret ?_ | refine inb_ret ?_
      exact (ret_tup2 FF8 1 0 Try.results20 rfl rfl ⟨by rw [listR_form h1 h2 (by omega) hA], MM8.belowN H (fun _ hx => hx)⟩)
set_option maxRecDepth 100000 in
theorem list_badO (O : Blks) (hD : Distinct O) (p : Option Addr) (n c : Nat) (s : Nat → List Nat) (_hn : n ≤ 1000000) (z : Int) (hz : z < 1 ∨ z > 256) (_hF : RowO O p n (fun k9 => sB (s k9))) (w0 : World) (H : Has w0 O) :
    Calls Try.prog 20 #[.int .i64 z, .slice p n c] w0 fun e w' => e = .returned (.tuple #[.string (bs (listR z n s).1), iN ((listR z n s).2)]) ∧ Below w0.heap.size w0 w' := by
  refine enter_fr Try.func20 rfl Try.ntmps20 (by simp) fun ac (FF : Fr 25 ac [(0, .int .i64 (z : Int)), (1, .slice p n c)]) => ?_
  have MM : MemS (fun k => k < w0.heap.size ∧ ∀ x ∈ O, x.1 ≠ k) w0 w0 O [] := MemS.startN H hD
  refine wp_seq (rg_seq FF MM [o_, o_] [0, 1, 4, 5] (fun Kt => Kt [(5, iN 0), (4, sB []), (0, .int .i64 (z : Int)), (1, .slice p n c)] O) (by kernel_rfl) (fun _ => by kernel_rfl) (fun ac1 wd1 FF1 MM1 => then_n ?_))
  refine wp_seq ?_
  refine wp_block ?_
  refine wp_seq (rg_seq FF1 MM1 [o_, t_ (.bool false), o_, o_] [5, 4, 0, 1, 6] (fun Kt => CallP Try.prog 29 [.int .i64 (z : Int)] [] (.bool false) ∧ Kt [(6, .bool true), (5, iN 0), (4, sB []), (0, .int .i64 (z : Int)), (1, .slice p n c)] O) (by kernel_rfl) (fun _ => by kernel_rfl) (⟨(callP_of en_maysz (maysz_no z hz) _), fun ac2 wd2 FF2 MM2 => then_n ?_⟩))
  refine wp_cond_true (FF2.ev 0 rfl) ?_
  refine wp_seq (rg_seq FF2 MM2 [o_, o_] [5, 4, 0, 1] (fun Kt => Kt [(5, iN 1), (4, sB []), (0, .int .i64 (z : Int)), (1, .slice p n c)] O) (by kernel_rfl) (fun _ => by kernel_rfl) (fun ac3 wd3 FF3 MM3 => then_n ?_))
  refine wp_ret ?_
  repeat first | refine then_ret ?_ | refine inb_ret ?_
  exact (ret_tup2 FF3 1 0 Try.results20 rfl rfl ⟨by rw [listR_bad hz], MM3.belowN H (fun _ hx => hx)⟩)
theorem list_w (p : Option Addr) (n c : Nat) (s : Nat → List Nat) (hn : n ≤ 1000000) (hc : n ≤ c) (z : Int) (w : World) (hF : RowIn w p n (fun k9 => sB (s k9))) :
    Calls Try.prog 20 #[.int .i64 z, .slice p n c] w fun e w' => e = .returned (.tuple #[.string (bs (listR z n s).1), iN ((listR z n s).2)]) ∧ Below w.heap.size w w' := by
  obtain ⟨O, g1, g2, g3⟩ := row_O hF
  by_cases hz : z < 1 ∨ z > 256
  · exact list_badO O g2 p n c s hn z hz g3 w g1
  · obtain ⟨k, rfl⟩ := Int.eq_ofNat_of_zero_le (a := z) (by omega)
    exact list_natO O g2 p n c s hn hc k (by omega) (by omega) g3 w g1
end Go.Proofs.Ytjpfdmkbmpecnaa
namespace Go.Proofs.Ytjpfdmkbmpecnaa
open Go.RowKit
set_option maxRecDepth 100000 in
theorem items_okw (X : List Nat) (hX : ∀ i, X.getD i 0 < 256) (k : Nat) (h1 : 1 ≤ k) (h2 : k ≤ 256) (hL : IsL k X) (n : Nat) (hn0 : X.getD 0 0 = n) (w0 : World) :
    Calls Try.prog 22 #[iN k, sB X] w0 fun e w' => ∃ v, e = .returned (.tuple #[.slice (pOf v) n (cOf v), iN 0]) ∧ Below w0.heap.size w0 w' ∧ RowNew w0.heap.size w' (pOf v) n (fun k9 => sB (itemAt (k : Nat) X k9)) ∧ n ≤ cOf v := by
  refine enter_fr Try.func22 rfl Try.ntmps22 (by simp) fun ac (FF : Fr 58 ac [(0, iN k), (1, sB X)]) => ?_
  have MM := MemS.start w0
  have hdl := isL_drop hL hn0
  have hn64 : n ≤ 64 := hn0 ▸ hL.2.2.1
  have h2l := hL.1
  refine wp_seq (rg_seq FF MM [o_, o_] [0, 1, 4, 5] (fun Kt => Kt [(5, iN 0), (4, .slice none 0 0), (0, iN k), (1, sB X)] []) (by kernel_rfl) (fun _ => by kernel_rfl) (fun ac1 wd1 FF1 MM1 => then_n ?_))
  refine wp_seq ?_
  refine wp_seq (rg_seq FF1 MM1 [o_, t_ (.bool true), o_] [5, 4, 0, 1, 12] (fun Kt => CallP Try.prog 29 [iN k] [] (.bool true) ∧ Kt [(12, .bool false), (5, iN 0), (4, .slice none 0 0), (0, iN k), (1, sB X)] []) (by kernel_rfl) (fun _ => by kernel_rfl) (⟨(callP_of en_maysz (maysz_yes k (by omega) (by omega)) _), fun ac2 wd2 FF2 MM2 => then_n ?_⟩))
  refine wp_cond_false (FF2.ev 0 rfl) ?_
  refine wp_skip ?_
  refine then_n ?_
  refine wp_seq ?_
  refine wp_seq (rg_seq FF2 MM2 [o_, t_ (iN X.length), w_ 3] [5, 4, 0, 1, 15] (fun Kt => iN ((bs X).size) = iN X.length ∧ ¬ (X.length < 2) ∧ Kt [(15, .bool false), (5, iN 0), (4, .slice none 0 0), (0, iN k), (1, sB X)] []) (by kernel_rfl) (fun _ => by kernel_rfl) (⟨(vI (bs_size _)), (by omega), fun ac3 wd3 FF3 MM3 => then_n ?_⟩))
  refine wp_cond_false (FF3.ev 0 rfl) ?_
  refine wp_skip ?_
  refine then_n ?_
  refine wp_seq (rg_draw FF3 MM3 [.inl (sB X), .inl (iB (X.getD 0 0)), .inl (iN (X.getD 0 0)), .inl (sB X), .inl (iB (X.getD 1 0)), .inl (iN (X.getD 1 0)), .inl (iN ((X.getD 1 0) * 256)), .inl (iN n), .inl (iN n)] [] [o_, t_ (iB (X.getD 0 0)), w_ 1, o_, t_ (iB (X.getD 1 0)), w_ 1, o_, t_ (iN n), o_] [] [5, 4, 0, 1, 6] (fun nb => [0 < (bs X).size, (nl (bs X)).getD 0 0 = X.getD 0 0, (X.getD 0 0) < 9223372036854775808, 1 < (bs X).size, (nl (bs X)).getD 1 0 = X.getD 1 0, (X.getD 1 0) < 9223372036854775808, (X.getD 1 0) * 256 < 9223372036854775808, 8 ≤ 64, (X.getD 0 0) < 9223372036854775808, ((X.getD 1 0) * 256) < 9223372036854775808, iN ((X.getD 0 0) ||| ((X.getD 1 0) * 256)) = iN n]) (fun nb Kt => Kt [(6, iN n), (5, iN 0), (4, .slice none 0 0), (0, iN k), (1, sB X)] []) (by kernel_rfl) (by kernel_rfl) (by kernel_rfl) (fun _ => by kernel_rfl) (fun _ _ => by kernel_rfl) trivial (fun nb => ⟨(by simp only [bs_size]; omega), (byte_bs hX _), (by have := hX 0; omega), (by simp only [bs_size]; omega), (byte_bs hX _), (by have := hX 1; omega), (by have := hX 1; omega), (by decide), (by have := hX 0; omega), (by have := hX 1; omega), (vI (isL_sum hX hL hn0)), trivial⟩) (fun nb => fun ac4 wd4 FF4 MM4 => then_n ?_))
  refine wp_seq (rg_seq FF4 MM4 [o_, t_ (sB (X.drop 2)), o_] [6, 5, 4, 0, 1, 7] (fun Kt => 2 ≤ (bs X).size ∧ 0 ≤ (bs X).size ∧ Value.string ((bs X).extract 2 (bs X).size) = sB (X.drop 2) ∧ Kt [(7, sB (X.drop 2)), (6, iN n), (5, iN 0), (4, .slice none 0 0), (0, iN k), (1, sB X)] []) (by kernel_rfl) (fun _ => by kernel_rfl) (⟨(by simp only [bs_size]; omega), (Nat.zero_le _), (vS2 (bs_from _ _)), fun ac5 wd5 FF5 MM5 => then_n ?_⟩))
  refine wp_seq ?_
  refine wp_seq (rg_seq FF5 MM5 [o_, w_ 3, o_, o_, t_ (iN (n * k)), o_, o_, o_, w_ 3, o_] [7, 6, 5, 4, 0, 1, 35] (fun Kt => ¬ (n > 64) ∧ iN ((bs (X.drop 2)).size) = iN (n * k) ∧ n * k < 9223372036854775808 ∧ ¬ ((n * k) ≠ (n * k)) ∧ Kt [(35, .bool false), (7, sB (X.drop 2)), (6, iN n), (5, iN 0), (4, .slice none 0 0), (0, iN k), (1, sB X)] []) (by kernel_rfl) (fun _ => by kernel_rfl) (⟨(by omega), (vI ((bs_size _).trans (by assumption))), (mul_fit (by omega) h2), (fun h => h rfl), fun ac6 wd6 FF6 MM6 => then_n ?_⟩))
  refine wp_cond_false (FF6.ev 0 rfl) ?_
  refine wp_skip ?_
  refine then_n ?_
  refine wp_seq (rg_seq FF6 MM6 [o_, n_ (.slice none n n) (.cells (fc n (fun k9 => sB [])) 9), o_] [7, 6, 5, 4, 0, 1, 8] (fun Kt => RunN Try.prog [(36, iN n), (35, .bool false), (7, sB (X.drop 2)), (6, iN n), (5, iN 0), (4, .slice none 0 0), (0, iN k), (1, sB X)] [] (opAt Try.f22 9 1) (mkOf (.slice none n n)) (.cells (fc n (fun k9 => sB [])) 9) ∧ ∀ bl, Kt [(8, .slice (some ⟨bl, 0, none⟩) n n), (7, sB (X.drop 2)), (6, iN n), (5, iN 0), (4, .slice none 0 0), (0, iN k), (1, sB X)] [(bl, .cells (fc n (fun k9 => sB [])) 9)]) (by kernel_rfl) (fun _ => by kernel_rfl) (⟨(makeF_ok (t := 26) (e := 9) (p := (.tmp 36)) (q := (.tmp 36)) (bb := 16) (z := sB []) (by kernel_rfl) rfl rfl Try.underlying26 (by kernel_rfl) rfl (by omega) (by omega)), fun bl => fun ac7 wd7 FF7 MM7 => then_n ?_⟩))
  have MMr8 : MemS (fun k => k < w0.heap.size) w0 wd7 [(bl, .cells (fc n (fun k9 => sB (if k9 < 0 then itemAt (k : Nat) X k9 else []))) 9)] [] := by rw [show fc n (fun k9 => sB (if k9 < 0 then itemAt (k : Nat) X k9 else [])) = fc n (fun k9 => sB []) from fc_cong fun j _ => vS (if_neg (Nat.not_lt_zero j))]; exact MM7
  refine wp_seq ?_
  refine wp_seq (rg_seq FF7 MMr8 [o_, o_, o_] [8, 7, 6, 5, 4, 0, 1, 39, 40] (fun Kt => Kt [(40, iN 0), (39, iN n), (8, .slice (some ⟨bl, 0, none⟩) n n), (7, sB (X.drop 2)), (6, iN n), (5, iN 0), (4, .slice none 0 0), (0, iN k), (1, sB X)] [(bl, .cells (fc n (fun k9 => sB (if k9 < 0 then itemAt (k : Nat) X k9 else []))) 9)]) (by kernel_rfl) (fun _ => by kernel_rfl) (fun ac9 wd9 FF9 MM9 => then_n ?_))
  refine wp_for (fun a' w' => ∃ i : Nat, i ≤ n ∧ Fr 58 a' [(40, iN i), (39, iN n), (8, .slice (some ⟨bl, 0, none⟩) n n), (7, sB (X.drop 2)), (6, iN n), (5, iN 0), (4, .slice none 0 0), (0, iN k), (1, sB X)] ∧ MemS (fun k => k < w0.heap.size) w0 w' [(bl, .cells (fc n (fun k9 => sB (if k9 < i then itemAt (k : Nat) X k9 else []))) 9)] []) (fun a' _ => (n - cnt 40 a').toNat) ⟨0, Nat.zero_le _, FF9.pick [0, 1, 2, 3, 4, 5, 6, 7, 8], MM9⟩ ?_
  rintro ac10 wd10 ⟨i, hi, FF10, MM10⟩
  have hc := cnt_of (FF10.get 0 rfl)
  refine rg_seq FF10 MM10 [o_] [40, 39, 8, 7, 6, 5, 4, 0, 1, 41] (fun Kt => Kt [(41, .bool (decide (i < n))), (40, iN i), (39, iN n), (8, .slice (some ⟨bl, 0, none⟩) n n), (7, sB (X.drop 2)), (6, iN n), (5, iN 0), (4, .slice none 0 0), (0, iN k), (1, sB X)] [(bl, .cells (fc n (fun k9 => sB (if k9 < i then itemAt (k : Nat) X k9 else []))) 9)]) (by kernel_rfl) (fun _ => by kernel_rfl) (fun ac11 wd11 FF11 MM11 => ?_)
  by_cases hlt : i < n
  · skip
    refine then_n (.inl ⟨(FF11.ev 0 rfl).trans (dec_t hlt), ?_⟩)
    refine wp_seq (rg_seq FF11 MM11 [o_, o_] [40, 39, 8, 7, 6, 5, 4, 0, 1, 9] (fun Kt => Kt [(9, iN i), (40, iN i), (39, iN n), (8, .slice (some ⟨bl, 0, none⟩) n n), (7, sB (X.drop 2)), (6, iN n), (5, iN 0), (4, .slice none 0 0), (0, iN k), (1, sB X)] [(bl, .cells (fc n (fun k9 => sB (if k9 < i then itemAt (k : Nat) X k9 else []))) 9)]) (by kernel_rfl) (fun _ => by kernel_rfl) (fun ac12 wd12 FF12 MM12 => then_n ?_))
    have e1 : (i + 1) * k = i * k + k := Nat.succ_mul i k
    have e2 : (i + 1) * k ≤ n * k := Nat.mul_le_mul_right k hlt
    refine rg_seq FF12 MM12 [o_, o_, o_, o_, o_, o_, o_, o_, o_, o_, t_ (sB (itemAt (k : Nat) X i)), t_ (sB (itemAt (k : Nat) X i)), w_ 1, s_ 0 (.cells (fc n (fun k9 => sB (if k9 < i + 1 then itemAt (k : Nat) X k9 else []))) 9)] [9, 40, 39, 8, 7, 6, 5, 4, 0, 1] (fun Kt => i * k < 9223372036854775808 ∧ i + 1 < 9223372036854775808 ∧ (i + 1) * k < 9223372036854775808 ∧ (i * k) ≤ ((i + 1) * k) ∧ ((i + 1) * k) ≤ (bs (X.drop 2)).size ∧ Value.string ((bs (X.drop 2)).extract (i * k) ((i + 1) * k)) = sB (itemAt (k : Nat) X i) ∧ CallP Try.prog 26 [sB (itemAt (k : Nat) X i)] [] (sB (itemAt (k : Nat) X i)) ∧ i < n ∧ bl = bl ∧ i < (fc n (fun k9 => sB (if k9 < i then itemAt (k : Nat) X k9 else []))).size ∧ (((0, 0)).2 = 0 ∨ i < ((0, 0)).1) ∧ (fc n (fun k9 => sB (if k9 < i then itemAt (k : Nat) X k9 else []))).setIfInBounds i (sB (itemAt (k : Nat) X i)) = fc n (fun k9 => sB (if k9 < i + 1 then itemAt (k : Nat) X k9 else [])) ∧ Kt [(9, iN i), (40, iN i), (39, iN n), (8, .slice (some ⟨bl, 0, none⟩) n n), (7, sB (X.drop 2)), (6, iN n), (5, iN 0), (4, .slice none 0 0), (0, iN k), (1, sB X)] [(bl, .cells (fc n (fun k9 => sB (if k9 < i + 1 then itemAt (k : Nat) X k9 else []))) 9)]) (by kernel_rfl) (fun _ => by kernel_rfl) (⟨(mul_fit (by omega) h2), (by omega), (mul_fit (by omega) h2), (by omega), (by rw [bs_size, show (X.drop 2).length = n * k from hdl]; omega), (vS2 ((bs_extract _ _ _).trans (congrArg bs (item_cut k X i)))), (callP_of en_clone (clone_any (itemAt (k : Nat) X i) (itemAt_lt hX i) (by rw [item_len hL (by omega)]; omega)) _), (by omega), rfl, (by rw [fc_size]; exact hlt), (.inl rfl), ((fc_set _ _ _ _).trans (fc_cong fun j _ => ite_str.trans (vS (upto_set (itemAt (k : Nat) X) i j)))), fun ac13 wd13 FF13 MM13 => ?_⟩)
    refine inb_n (then_n ?_)
    refine rg_seq FF13 MM13 [o_, o_] [9, 40, 39, 8, 7, 6, 5, 4, 0, 1] (fun Kt => i + 1 < 9223372036854775808 ∧ Kt [(40, iN (i + 1)), (9, iN i), (39, iN n), (8, .slice (some ⟨bl, 0, none⟩) n n), (7, sB (X.drop 2)), (6, iN n), (5, iN 0), (4, .slice none 0 0), (0, iN k), (1, sB X)] [(bl, .cells (fc n (fun k9 => sB (if k9 < i + 1 then itemAt (k : Nat) X k9 else []))) 9)]) (by kernel_rfl) (fun _ => by kernel_rfl) (⟨(by omega), fun ac14 wd14 FF14 MM14 => ?_⟩)
    have hd := cnt_of (FF14.get 0 rfl)
    refine then_n ⟨⟨i + 1, by omega, FF14.pick [0, 2, 3, 4, 5, 6, 7, 8, 9], MM14⟩, ?_⟩
    rw [hc, hd]; omega
  · skip
    refine then_n (.inr ⟨(FF11.ev 0 rfl).trans (dec_f hlt), ?_⟩)
    obtain rfl : n = i := by omega
    have MMr15 : MemS (fun k => k < w0.heap.size) w0 wd11 [(bl, .cells (fc n (fun k9 => sB (itemAt (k : Nat) X k9))) 9)] [] := by rw [show fc n (fun k9 => sB (itemAt (k : Nat) X k9)) = fc n (fun k9 => sB (if k9 < n then itemAt (k : Nat) X k9 else [])) from fc_cong fun j hj => vS (if_pos hj).symm]; exact MM11
    refine then_n ?_
    refine wp_seq (rg_seq FF11 MMr15 [o_, o_, o_] [40, 39, 8, 7, 6, 5, 4, 0, 1] (fun Kt => Kt [(5, iN 0), (4, .slice (some ⟨bl, 0, none⟩) n n), (40, iN n), (39, iN n), (8, .slice (some ⟨bl, 0, none⟩) n n), (7, sB (X.drop 2)), (6, iN n), (0, iN k), (1, sB X)] [(bl, .cells (fc n (fun k9 => sB (itemAt (k : Nat) X k9))) 9)]) (by kernel_rfl) (fun _ => by kernel_rfl) (fun ac16 wd16 FF16 MM16 => then_n ?_))
    refine wp_ret ?_
    repeat first | refine then_ret ?_ | refine inb_ret ?_
    exact (ret_tup2 FF16 1 0 Try.results22 rfl rfl ⟨.slice (some ⟨bl, 0, none⟩) n n, rfl, MM16.below, rowNew_fc (MM16.get 0 rfl) (MM16.fresh 0 rfl), Nat.le_refl _⟩)
set_option maxRecDepth 100000 in
theorem items_now (X : List Nat) (hX : ∀ i, X.getD i 0 < 256) (k : Nat) (h1 : 1 ≤ k) (h2 : k ≤ 256) (hL : ¬ IsL k X) (w0 : World) :
    Calls Try.prog 22 #[iN k, sB X] w0 fun e w' => e = .returned (.tuple #[.slice none 0 0, iN 5]) ∧ Below w0.heap.size w0 w' := by
  refine enter_fr Try.func22 rfl Try.ntmps22 (by simp) fun ac (FF : Fr 58 ac [(0, iN k), (1, sB X)]) => ?_
  have MM := MemS.start w0
  obtain ⟨m, hm⟩ : ∃ m, X.getD 0 0 + X.getD 1 0 * 256 = m := ⟨_, rfl⟩
  have hm16 : m < 65792 := by have := hX 0; have := hX 1; omega
  refine wp_seq (rg_seq FF MM [o_, o_] [0, 1, 4, 5] (fun Kt => Kt [(5, iN 0), (4, .slice none 0 0), (0, iN k), (1, sB X)] []) (by kernel_rfl) (fun _ => by kernel_rfl) (fun ac1 wd1 FF1 MM1 => then_n ?_))
  refine wp_seq ?_
  refine wp_seq (rg_seq FF1 MM1 [o_, t_ (.bool true), o_] [5, 4, 0, 1, 12] (fun Kt => CallP Try.prog 29 [iN k] [] (.bool true) ∧ Kt [(12, .bool false), (5, iN 0), (4, .slice none 0 0), (0, iN k), (1, sB X)] []) (by kernel_rfl) (fun _ => by kernel_rfl) (⟨(callP_of en_maysz (maysz_yes k (by omega) (by omega)) _), fun ac2 wd2 FF2 MM2 => then_n ?_⟩))
  refine wp_cond_false (FF2.ev 0 rfl) ?_
  refine wp_skip ?_
  refine then_n ?_
  refine wp_seq ?_
  refine wp_seq (rg_seq FF2 MM2 [o_, t_ (iN X.length), o_] [5, 4, 0, 1, 15] (fun Kt => iN ((bs X).size) = iN X.length ∧ Kt [(15, .bool (decide (X.length < 2))), (5, iN 0), (4, .slice none 0 0), (0, iN k), (1, sB X)] []) (by kernel_rfl) (fun _ => by kernel_rfl) (⟨(vI (bs_size _)), fun ac3 wd3 FF3 MM3 => then_n ?_⟩))
  by_cases hs15 : X.length < 2
  · refine wp_cond_true ((FF3.ev 0 rfl).trans (dec_t hs15)) ?_
    refine wp_seq (rg_seq FF3 MM3 [o_, o_] [5, 4, 0, 1] (fun Kt => Kt [(5, iN 5), (4, .slice none 0 0), (0, iN k), (1, sB X)] []) (by kernel_rfl) (fun _ => by kernel_rfl) (fun ac4 wd4 FF4 MM4 => then_n ?_))
    refine wp_ret ?_
    repeat first | refine then_ret ?_ | refine inb_ret ?_
    exact (ret_tup2 FF4 1 0 Try.results22 rfl rfl ⟨rfl, MM4.below⟩)
  · refine wp_cond_false ((FF3.ev 0 rfl).trans (dec_f hs15)) ?_
    refine wp_skip ?_
    refine then_n ?_
    refine wp_seq (rg_draw FF3 MM3 [.inl (sB X), .inl (iB (X.getD 0 0)), .inl (iN (X.getD 0 0)), .inl (sB X), .inl (iB (X.getD 1 0)), .inl (iN (X.getD 1 0)), .inl (iN ((X.getD 1 0) * 256)), .inl (iN m), .inl (iN m)] [] [o_, t_ (iB (X.getD 0 0)), w_ 1, o_, t_ (iB (X.getD 1 0)), w_ 1, o_, t_ (iN m), o_] [] [5, 4, 0, 1, 6] (fun nb => [0 < (bs X).size, (nl (bs X)).getD 0 0 = X.getD 0 0, (X.getD 0 0) < 9223372036854775808, 1 < (bs X).size, (nl (bs X)).getD 1 0 = X.getD 1 0, (X.getD 1 0) < 9223372036854775808, (X.getD 1 0) * 256 < 9223372036854775808, 8 ≤ 64, (X.getD 0 0) < 9223372036854775808, ((X.getD 1 0) * 256) < 9223372036854775808, iN ((X.getD 0 0) ||| ((X.getD 1 0) * 256)) = iN m]) (fun nb Kt => Kt [(6, iN m), (5, iN 0), (4, .slice none 0 0), (0, iN k), (1, sB X)] []) (by kernel_rfl) (by kernel_rfl) (by kernel_rfl) (fun _ => by kernel_rfl) (fun _ _ => by kernel_rfl) trivial (fun nb => ⟨(by simp only [bs_size]; omega), (byte_bs hX _), (by have := hX 0; omega), (by simp only [bs_size]; omega), (byte_bs hX _), (by have := hX 1; omega), (by have := hX 1; omega), (by decide), (by have := hX 0; omega), (by have := hX 1; omega), (vI ((or_shl 8 (hX 0)).trans hm)), trivial⟩) (fun nb => fun ac5 wd5 FF5 MM5 => then_n ?_))
    refine wp_seq (rg_seq FF5 MM5 [o_, t_ (sB (X.drop 2)), o_] [6, 5, 4, 0, 1, 7] (fun Kt => 2 ≤ (bs X).size ∧ 0 ≤ (bs X).size ∧ Value.string ((bs X).extract 2 (bs X).size) = sB (X.drop 2) ∧ Kt [(7, sB (X.drop 2)), (6, iN m), (5, iN 0), (4, .slice none 0 0), (0, iN k), (1, sB X)] []) (by kernel_rfl) (fun _ => by kernel_rfl) (⟨(by simp only [bs_size]; omega), (Nat.zero_le _), (vS2 (bs_from _ _)), fun ac6 wd6 FF6 MM6 => then_n ?_⟩))
    refine wp_seq ?_
    by_cases h64 : m > 64
    · skip
      refine wp_seq (rg_seq FF6 MM6 [o_, w_ 2, o_, o_, o_, o_, o_, o_, o_, o_] [7, 6, 5, 4, 0, 1, 35] (fun Kt => m > 64 ∧ Kt [(35, .bool true), (7, sB (X.drop 2)), (6, iN m), (5, iN 0), (4, .slice none 0 0), (0, iN k), (1, sB X)] []) (by kernel_rfl) (fun _ => by kernel_rfl) (⟨h64, fun ac7 wd7 FF7 MM7 => then_n ?_⟩))
      refine wp_cond_true (FF7.ev 0 rfl) ?_
      refine wp_seq (rg_seq FF7 MM7 [o_, o_] [7, 6, 5, 4, 0, 1] (fun Kt => Kt [(5, iN 5), (4, .slice none 0 0), (7, sB (X.drop 2)), (6, iN m), (0, iN k), (1, sB X)] []) (by kernel_rfl) (fun _ => by kernel_rfl) (fun ac8 wd8 FF8 MM8 => then_n ?_))
      refine wp_ret ?_
      repeat first | refine then_ret ?_ | refine inb_ret ?_
      exact (ret_tup2 FF8 1 0 Try.results22 rfl rfl ⟨rfl, MM8.below⟩)
    · skip
      refine wp_seq (rg_seq FF6 MM6 [o_, w_ 3, o_, o_, t_ (iN ((X.drop 2).length)), o_, o_, o_, w_ 2, o_] [7, 6, 5, 4, 0, 1, 35] (fun Kt => ¬ (m > 64) ∧ iN ((bs (X.drop 2)).size) = iN ((X.drop 2).length) ∧ m * k < 9223372036854775808 ∧ ((X.drop 2).length) ≠ (m * k) ∧ Kt [(35, .bool true), (7, sB (X.drop 2)), (6, iN m), (5, iN 0), (4, .slice none 0 0), (0, iN k), (1, sB X)] []) (by kernel_rfl) (fun _ => by kernel_rfl) (⟨h64, (vI (bs_size _)), (mul_fit (by omega) h2), (fun h => hL (isL_of (by omega) hm (by omega) h)), fun ac9 wd9 FF9 MM9 => then_n ?_⟩))
      refine wp_cond_true (FF9.ev 0 rfl) ?_
      refine wp_seq (rg_seq FF9 MM9 [o_, o_] [7, 6, 5, 4, 0, 1] (fun Kt => Kt [(5, iN 5), (4, .slice none 0 0), (7, sB (X.drop 2)), (6, iN m), (0, iN k), (1, sB X)] []) (by kernel_rfl) (fun _ => by kernel_rfl) (fun ac10 wd10 FF10 MM10 => then_n ?_))
      refine wp_ret ?_
      repeat first | refine then_ret ?_ | refine inb_ret ?_
      exact (ret_tup2 FF10 1 0 Try.results22 rfl rfl ⟨rfl, MM10.below⟩)
set_option maxRecDepth 100000 in
theorem items_badw (X : List Nat) (z : Int) (hz : z < 1 ∨ z > 256) (w0 : World) :
    Calls Try.prog 22 #[.int .i64 z, sB X] w0 fun e w' => e = .returned (.tuple #[.slice none 0 0, iN 1]) ∧ Below w0.heap.size w0 w' := by
  refine enter_fr Try.func22 rfl Try.ntmps22 (by simp) fun ac (FF : Fr 58 ac [(0, .int .i64 (z : Int)), (1, sB X)]) => ?_
  have MM := MemS.start w0
  refine wp_seq (rg_seq FF MM [o_, o_] [0, 1, 4, 5] (fun Kt => Kt [(5, iN 0), (4, .slice none 0 0), (0, .int .i64 (z : Int)), (1, sB X)] []) (by kernel_rfl) (fun _ => by kernel_rfl) (fun ac1 wd1 FF1 MM1 => then_n ?_))
  refine wp_seq ?_
  refine wp_seq (rg_seq FF1 MM1 [o_, t_ (.bool false), o_] [5, 4, 0, 1, 12] (fun Kt => CallP Try.prog 29 [.int .i64 (z : Int)] [] (.bool false) ∧ Kt [(12, .bool true), (5, iN 0), (4, .slice none 0 0), (0, .int .i64 (z : Int)), (1, sB X)] []) (by kernel_rfl) (fun _ => by kernel_rfl) (⟨(callP_of en_maysz (maysz_no z hz) _), fun ac2 wd2 FF2 MM2 => then_n ?_⟩))
  refine wp_cond_true (FF2.ev 0 rfl) ?_
  refine wp_seq (rg_seq FF2 MM2 [o_, o_] [5, 4, 0, 1] (fun Kt => Kt [(5, iN 1), (4, .slice none 0 0), (0, .int .i64 (z : Int)), (1, sB X)] []) (by kernel_rfl) (fun _ => by kernel_rfl) (fun ac3 wd3 FF3 MM3 => then_n ?_))
  refine wp_ret ?_
  repeat first | refine then_ret ?_ | refine inb_ret ?_
  exact (ret_tup2 FF3 1 0 Try.results22 rfl rfl ⟨rfl, MM3.below⟩)
theorem items_any (X : List Nat) (hX : ∀ i, X.getD i 0 < 256) (z : Int) (w0 : World) : Calls Try.prog 22 #[.int .i64 z, sB X] w0 fun e w' => ∃ v, e = .returned (.tuple #[.slice (pOf v) (itemsN z X) (cOf v), iN (itemsE z X)]) ∧ Below w0.heap.size w0 w' ∧ RowNew w0.heap.size w' (pOf v) (itemsN z X) (fun k9 => sB (itemAt z X k9)) ∧ (itemsN z X) ≤ cOf v := by
  by_cases hz : z < 1 ∨ z > 256
  · rw [itemsE_bad hz, itemsN_bad hz]
    exact (items_badw X z hz w0).mono fun e w' ⟨h1, h2⟩ => ⟨.slice none 0 0, h1, h2, .inl rfl, Nat.le_refl _⟩
  · obtain ⟨k, rfl⟩ := Int.eq_ofNat_of_zero_le (a := z) (by omega)
    by_cases hL : IsL k X
    · rw [itemsE_ok (by omega) (by omega) hL, itemsN_ok (by omega) (by omega) hL]
      exact items_okw X hX k (by omega) (by omega) hL _ rfl w0
    · rw [itemsE_no (by omega) (by omega) hL, itemsN_no (by omega) (by omega) hL]
      exact (items_now X hX k (by omega) (by omega) hL w0).mono fun e w' ⟨h1, h2⟩ => ⟨.slice none 0 0, h1, h2, .inl rfl, Nat.le_refl _⟩
end Go.Proofs.Ytjpfdmkbmpecnaa
namespace Go.Proofs.Ytjpfdmkbmpecnaa
open Go.RowKit
theorem en_wakes : Enters Try.prog 8 := fun args w => by simp [go_sem]
theorem eqB_same {P : Program} {l : Slots} {L : Blks} {o : Oper} {p : Bool} (h : RunV P l L o (.bool (p == p))) : RunV P l L o (.bool true) := by rwa [beq_self_eq_true] at h
theorem one3 : ∀ i, i < 1 → ([[97, 98, 99]].getD i []).length = 3 := fun i hi => by
  obtain rfl : i = 0 := by omega
  rfl
theorem is3 : IsL 3 [1, 0, 97, 98, 99] := ⟨by decide, rfl, by decide, rfl⟩
theorem it3 : ∀ i : Fin 1, itemAt ((3 : Nat) : Int) [1, 0, 97, 98, 99] i.val = [[97, 98, 99]].getD i.val [] := by decide
theorem lit4_row (A B C D : List Nat) : ∀ j, j < 4 → (#[sB A, sB B, sB C, sB D] : Array Value)[0 + j]? = some (sB ([A, B, C, D].getD j [])) := fun j hj => by
  match j with
  | 0 => rfl
  | 1 => rfl
  | 2 => rfl
  | 3 => rfl
  | j + 4 => omega
set_option maxRecDepth 100000 in
theorem wakes_any (O : Blks) (hD : Distinct O)  (w0 : World) (H : Has w0 O) :
    Calls Try.prog 8 #[] w0 fun e w' => e = .returned (.bool true) ∧ Below w0.heap.size w0 w' := by
  refine enter_fr Try.func8 rfl Try.ntmps8 (by simp) fun ac (FF : Fr 102 ac []) => ?_
  have MM : MemS (fun k => k < w0.heap.size ∧ ∀ x ∈ O, x.1 ≠ k) w0 w0 O [] := MemS.startN H hD
  refine wp_seq (rg_seq FF MM [o_] [0] (fun Kt => Kt [(0, .bool false)] O) (by kernel_rfl) (fun _ => by kernel_rfl) (fun ac1 wd1 FF1 MM1 => then_n ?_))
  refine wp_seq (rg_seq FF1 MM1 [t_ (.tuple #[sB (bodyN ([97, 98])), iN 0]), o_, o_, o_, o_, o_] [0, 1, 2] (fun Kt => CallP Try.prog 9 [sB ([97, 98])] [] (.tuple #[sB (bodyN ([97, 98])), iN 0]) ∧ Kt [(2, iN 0), (1, sB (bodyN ([97, 98]))), (0, .bool false)] O) (by kernel_rfl) (fun _ => by kernel_rfl) (⟨(callP_of en_body (fun w => by have h0 := body_any ([97, 98]) (lit_lt (by kernel_rfl)) w; rw [bodyR_ok (by decide)] at h0; exact h0) _), fun ac2 wd2 FF2 MM2 => then_n ?_⟩))
  refine wp_seq (rg_seq FF2 MM2 [o_, t_ (.tuple #[sB ([97, 98]), .bool true]), o_, o_, o_, o_, o_] [2, 1, 0, 3, 4] (fun Kt => CallP Try.prog 11 [sB (bodyN ([97, 98]))] [] (.tuple #[sB ([97, 98]), .bool true]) ∧ Kt [(4, .bool true), (3, sB ([97, 98])), (2, iN 0), (1, sB (bodyN ([97, 98]))), (0, .bool false)] O) (by kernel_rfl) (fun _ => by kernel_rfl) (⟨(callP_of en_text (fun w => by have h0 := text_any (bodyN ([97, 98])) (bodyN_lt (lit_lt (by kernel_rfl)) (by decide)) w; rw [text_body (X := [97, 98]) (by decide)] at h0; exact h0) _), fun ac3 wd3 FF3 MM3 => then_n ?_⟩))
  refine wp_seq (rg_seq FF3 MM3 [o_, u_ 1 (.tuple #[sB ([1, 0, 97, 98, 99]), iN 0]), o_, o_, o_, o_, o_] [4, 3, 2, 1, 0, 5, 6] (fun Kt => ∀ b1, CallP Try.prog 20 [iN 3, .slice (some ⟨b1, 0, none⟩) 1 1] ((b1, .cells (fc 1 (fun k9 => sB ([[97, 98, 99]].getD k9 []))) 9) :: O) (.tuple #[sB ([1, 0, 97, 98, 99]), iN 0]) ∧ Kt [(6, iN 0), (5, sB ([1, 0, 97, 98, 99])), (4, .bool true), (3, sB ([97, 98])), (2, iN 0), (1, sB (bodyN ([97, 98]))), (0, .bool false)] ((b1, .cells (fc 1 (fun k9 => sB ([[97, 98, 99]].getD k9 []))) 9) :: O)) (by kernel_rfl) (fun _ => by kernel_rfl) (fun b1 => ⟨⟨en_list, fun w Hw => by have h0 := list_w (some ⟨b1, 0, none⟩) 1 1 (fun k9 => [[97, 98, 99]].getD k9 []) (by omega) (by omega) ((3 : Nat) : Int) w (rowIn_fc (Hw 0 _ rfl)); rw [listR_ok (k := 3) (by decide) (by decide) (by decide) one3] at h0; exact h0⟩, fun ac4 wd4 FF4 MM4 => then_n ?_⟩))
  refine wp_seq (wp_region_list ?_)
  refine rg_part 1 FF4 MM4 [o_] [6, 5, 4, 3, 2, 1, 0, 29] (fun Kt => Kt [(29, sB ([1, 0, 97, 98, 99])), (6, iN 0), (5, sB ([1, 0, 97, 98, 99])), (4, .bool true), (3, sB ([97, 98])), (2, iN 0), (1, sB (bodyN ([97, 98]))), (0, .bool false)] ((b1, .cells (fc 1 (fun k9 => sB ([[97, 98, 99]].getD k9 []))) 9) :: O)) (by kernel_rfl) (fun _ => by kernel_rfl) (fun ac5 wd5 FF5 MM5 => ?_)
  refine st_callE [6, 5, 4, 3, 2, 1, 0, 30] FF5 (d := 30) (mk := fun v => .tuple #[.slice (pOf v) 1 (cOf v), iN 0]) en_items rfl rfl (by have h0 := items_any ([1, 0, 97, 98, 99]) (lit_lt (by kernel_rfl)) ((3 : Nat) : Int) wd5; rw [itemsE_ok (k := 3) (by decide) (by decide) is3, itemsN_ok (k := 3) (by decide) (by decide) is3] at h0; exact h0) rfl (by kernel_rfl) (by decide) fun ac9 wd9 lv8 (FF9 : Fr 102 ac9 [(30, .tuple #[.slice (pOf lv8) 1 (cOf lv8), iN 0]), (6, iN 0), (5, sB ([1, 0, 97, 98, 99])), (4, .bool true), (3, sB ([97, 98])), (2, iN 0), (1, sB (bodyN ([97, 98]))), (0, .bool false)]) hr10 => ?_
  have hcp_lv8 := hr10.2.2
  have hrw7 := And.intro hr10.1 hr10.2.1
  obtain ⟨O11, MM120, hR13, hs14⟩ := MemS.addRow (K := [(b1, .cells (fc 1 (fun k9 => sB ([[97, 98, 99]].getD k9 []))) 9)]) (O := O) MM5 hrw7.1 hrw7.2
  have MM12 : MemS (fun k => k < w0.heap.size ∧ ∀ x ∈ O, x.1 ≠ k) w0 wd9 ((b1, .cells (fc 1 (fun k9 => sB ([[97, 98, 99]].getD k9 []))) 9) :: O11) [] := MM120
  refine rg_part 5 FF9 MM12 [o_, o_, o_, o_, o_] [6, 5, 4, 3, 2, 1, 0, 7, 8] (fun Kt => Kt [(8, iN 0), (7, .slice (pOf lv8) 1 (cOf lv8)), (6, iN 0), (5, sB ([1, 0, 97, 98, 99])), (4, .bool true), (3, sB ([97, 98])), (2, iN 0), (1, sB (bodyN ([97, 98]))), (0, .bool false)] ((b1, .cells (fc 1 (fun k9 => sB ([[97, 98, 99]].getD k9 []))) 9) :: O11)) (by kernel_rfl) (fun _ => by kernel_rfl) (fun ac15 wd15 FF15 MM15 => ?_)
  refine wpl_nil (then_n ?_)
  refine wp_seq (rg_seq FF15 MM15 [o_, n_ (.slice none 36 36) (.cells (cn .u8 (List.replicate 36 0)) 5), l_ 0 (sB (List.replicate 36 0)), t_ (.tuple #[sB (([5, 0, 0, 0, 0, 0, 0, 0, 0, 0, 0, 0, 0, 0, 0, 0]) ++ (List.replicate 36 0)), iN 0]), o_, o_, o_, o_, o_] [8, 7, 6, 5, 4, 3, 2, 1, 0, 9, 10] (fun Kt => RunN Try.prog [(34, .agg (cn .u8 ([5, 0, 0, 0, 0, 0, 0, 0, 0, 0, 0, 0, 0, 0, 0, 0]))), (8, iN 0), (7, .slice (pOf lv8) 1 (cOf lv8)), (6, iN 0), (5, sB ([1, 0, 97, 98, 99])), (4, .bool true), (3, sB ([97, 98])), (2, iN 0), (1, sB (bodyN ([97, 98]))), (0, .bool false)] ((b1, .cells (fc 1 (fun k9 => sB ([[97, 98, 99]].getD k9 []))) 9) :: O11) (opAt Try.f8 5 1) (mkOf (.slice none 36 36)) (.cells (cn .u8 (List.replicate 36 0)) 5) ∧ ∀ b2, b2 = b2 ∧ StrAt (cn .u8 (List.replicate 36 0)) 0 36 (bs (List.replicate 36 0)) ∧ CallP Try.prog 13 [.agg (cn .u8 ([5, 0, 0, 0, 0, 0, 0, 0, 0, 0, 0, 0, 0, 0, 0, 0])), sB (List.replicate 36 0)] [] (.tuple #[sB (([5, 0, 0, 0, 0, 0, 0, 0, 0, 0, 0, 0, 0, 0, 0, 0]) ++ (List.replicate 36 0)), iN 0]) ∧ Kt [(10, iN 0), (9, sB (([5, 0, 0, 0, 0, 0, 0, 0, 0, 0, 0, 0, 0, 0, 0, 0]) ++ (List.replicate 36 0))), (8, iN 0), (7, .slice (pOf lv8) 1 (cOf lv8)), (6, iN 0), (5, sB ([1, 0, 97, 98, 99])), (4, .bool true), (3, sB ([97, 98])), (2, iN 0), (1, sB (bodyN ([97, 98]))), (0, .bool false)] ((b2, .cells (cn .u8 (List.replicate 36 0)) 5) :: (b1, .cells (fc 1 (fun k9 => sB ([[97, 98, 99]].getD k9 []))) 9) :: O11)) (by kernel_rfl) (fun _ => by kernel_rfl) (⟨(make_ok (t := 40) (e := 5) (p := (.const (iN 36))) (q := (.const (iN 36))) (by kernel_rfl) rfl rfl Try.underlying40 (by kernel_rfl) (by decide)), fun b2 => ⟨rfl, (str_all (List.length_replicate ..) (rep0_lt)), (callP_of en_request (fun w => by have h0 := request_any ([5, 0, 0, 0, 0, 0, 0, 0, 0, 0, 0, 0, 0, 0, 0, 0]) rfl (lit_lt (by kernel_rfl)) (List.replicate 36 0) w; rw [requestR_ok (List.length_replicate ..)] at h0; exact h0) _), fun ac16 wd16 FF16 MM16 => then_n ?_⟩⟩))
  refine wp_seq (rg_seq FF16 MM16 [o_, t_ (.tuple #[.agg (cn .u8 ([5, 0, 0, 0, 0, 0, 0, 0, 0, 0, 0, 0, 0, 0, 0, 0])), sB (List.replicate 36 0), .bool true]), o_, o_, o_, o_, o_, b_ 0, o_, o_] [10, 8, 7, 6, 5, 4, 3, 2, 1, 0, 11, 12, 13] (fun Kt => CallP Try.prog 14 [sB (([5, 0, 0, 0, 0, 0, 0, 0, 0, 0, 0, 0, 0, 0, 0, 0]) ++ (List.replicate 36 0))] [] (.tuple #[.agg (cn .u8 ([5, 0, 0, 0, 0, 0, 0, 0, 0, 0, 0, 0, 0, 0, 0, 0])), sB (List.replicate 36 0), .bool true]) ∧ ∀ b3, b3 = b3 ∧ (cn .u8 (List.replicate 16 0)).size = 16 ∧ (cn .u8 ([5, 0, 0, 0, 0, 0, 0, 0, 0, 0, 0, 0, 0, 0, 0, 0])).size = 16 ∧ (cn .u8 ([5, 0, 0, 0, 0, 0, 0, 0, 0, 0, 0, 0, 0, 0, 0, 0])).all (·.oneCell') = true ∧ (0, 0).2 = 0 ∧ Kt [(13, .bool true), (12, sB (List.replicate 36 0)), (11, pT b3), (10, iN 0), (8, iN 0), (7, .slice (pOf lv8) 1 (cOf lv8)), (6, iN 0), (5, sB ([1, 0, 97, 98, 99])), (4, .bool true), (3, sB ([97, 98])), (2, iN 0), (1, sB (bodyN ([97, 98]))), (0, .bool false)] ((b3, .cells (cn .u8 ([5, 0, 0, 0, 0, 0, 0, 0, 0, 0, 0, 0, 0, 0, 0, 0])) 24) :: (b2, .cells (cn .u8 (List.replicate 36 0)) 5) :: (b1, .cells (fc 1 (fun k9 => sB ([[97, 98, 99]].getD k9 []))) 9) :: O11)) (by kernel_rfl) (fun _ => by kernel_rfl) (⟨(callP_of en_parts (fun w => by have h0 := parts_any (([5, 0, 0, 0, 0, 0, 0, 0, 0, 0, 0, 0, 0, 0, 0, 0]) ++ (List.replicate 36 0)) (app_lt (lit_lt (by kernel_rfl)) (rep0_lt)) w; rw [parts_app (D := [5, 0, 0, 0, 0, 0, 0, 0, 0, 0, 0, 0, 0, 0, 0, 0]) (B := List.replicate 36 0) rfl (List.length_replicate ..)] at h0; exact h0) _), fun b3 => ⟨rfl, ((cn_size _ _).trans (List.length_replicate ..)), ((cn_size _ _).trans rfl), (cn_one _ _), rfl, fun ac17 wd17 FF17 MM17 => then_n ?_⟩⟩))
  refine wp_seq (rg_seq FF17 MM17 [o_, w_ 2, o_, o_, t_ (iN ((bodyN ([97, 98])).length)), w_ 2, o_, o_, o_, w_ 2, o_, o_, o_, o_, o_, o_, w_ 2, o_, o_, o_, w_ 2, o_, o_, o_, w_ 2, o_, o_, o_, o_, u_ 1 (.bool true), o_, o_, o_, w_ 2, o_, o_, b_ 1, o_, f_ (.bool true), o_, o_, o_, t_ (iN ((List.replicate 36 0).length)), w_ 2, o_, o_, o_, o_, o_, t_ (iN 196), w_ 2, o_, o_, t_ (iN 52), w_ 2, o_, o_] [11, 5, 1, 0] (fun Kt => 0 = 0 ∧ iN ((bs (bodyN ([97, 98]))).size) = iN ((bodyN ([97, 98])).length) ∧ ((bodyN ([97, 98])).length) = 20 ∧ bs ([97, 98]) = bs ([97, 98]) ∧ 0 = 0 ∧ bs ([1, 0, 97, 98, 99]) = bs ([1, 0, 97, 98, 99]) ∧ 0 = 0 ∧ ∀ b4, CallP Try.prog 24 [.slice (pOf lv8) 1 (cOf lv8), .slice (some ⟨b4, 0, none⟩) 1 1] ((b4, .cells (fc 1 (fun k9 => sB ([[97, 98, 99]].getD k9 []))) 9) :: (b3, .cells (cn .u8 ([5, 0, 0, 0, 0, 0, 0, 0, 0, 0, 0, 0, 0, 0, 0, 0])) 24) :: (b2, .cells (cn .u8 (List.replicate 36 0)) 5) :: (b1, .cells (fc 1 (fun k9 => sB ([[97, 98, 99]].getD k9 []))) 9) :: O11) (.bool true) ∧ 0 = 0 ∧ b3 = b3 ∧ (cn .u8 ([5, 0, 0, 0, 0, 0, 0, 0, 0, 0, 0, 0, 0, 0, 0, 0])).size = 16 ∧ RunV Try.prog [(83, .agg (cn .u8 ([5, 0, 0, 0, 0, 0, 0, 0, 0, 0, 0, 0, 0, 0, 0, 0]))), (82, .agg (cn .u8 ([5, 0, 0, 0, 0, 0, 0, 0, 0, 0, 0, 0, 0, 0, 0, 0]))), (81, .bool true), (80, .bool true), (79, .bool true), (78, iN 0), (77, .bool true), (76, .bool true), (75, .bool true), (74, .slice (some ⟨b4, 0, none⟩) 1 1), (73, .slice (pOf lv8) 1 (cOf lv8)), (72, .bool true), (71, .bool true), (70, .bool true), (69, iN 0), (68, .bool true), (67, .bool true), (66, .bool true), (65, sB ([1, 0, 97, 98, 99])), (64, .bool true), (63, .bool true), (62, .bool true), (61, iN 0), (60, .bool true), (59, .bool true), (58, .bool true), (57, .bool true), (56, .bool true), (55, .bool true), (54, sB ([97, 98])), (53, .bool true), (52, .bool true), (51, .bool true), (50, iN ((bodyN ([97, 98])).length)), (49, sB (bodyN ([97, 98]))), (48, .bool true), (47, .bool true), (46, iN 0), (13, .bool true), (12, sB (List.replicate 36 0)), (11, pT b3), (10, iN 0), (8, iN 0), (7, .slice (pOf lv8) 1 (cOf lv8)), (6, iN 0), (5, sB ([1, 0, 97, 98, 99])), (4, .bool true), (3, sB ([97, 98])), (2, iN 0), (1, sB (bodyN ([97, 98]))), (0, .bool false)] ((b4, .cells (fc 1 (fun k9 => sB ([[97, 98, 99]].getD k9 []))) 9) :: (b3, .cells (cn .u8 ([5, 0, 0, 0, 0, 0, 0, 0, 0, 0, 0, 0, 0, 0, 0, 0])) 24) :: (b2, .cells (cn .u8 (List.replicate 36 0)) 5) :: (b1, .cells (fc 1 (fun k9 => sB ([[97, 98, 99]].getD k9 []))) 9) :: O11) (opAt Try.f8 7 38) (.bool true) ∧ iN ((bs (List.replicate 36 0)).size) = iN ((List.replicate 36 0).length) ∧ ((List.replicate 36 0).length) = 36 ∧ CallP Try.prog 16 [iN 1] [] (iN 196) ∧ 196 = 196 ∧ CallP Try.prog 18 [iN 3] [] (iN 52) ∧ 52 = 52 ∧ Kt [(0, .bool true), (11, pT b3), (5, sB ([1, 0, 97, 98, 99])), (1, sB (bodyN ([97, 98])))] ((b4, .cells (fc 1 (fun k9 => sB ([[97, 98, 99]].getD k9 []))) 9) :: (b3, .cells (cn .u8 ([5, 0, 0, 0, 0, 0, 0, 0, 0, 0, 0, 0, 0, 0, 0, 0])) 24) :: (b2, .cells (cn .u8 (List.replicate 36 0)) 5) :: (b1, .cells (fc 1 (fun k9 => sB ([[97, 98, 99]].getD k9 []))) 9) :: O11)) (by kernel_rfl) (fun _ => by kernel_rfl) (⟨(by decide), (vI (bs_size _)), rfl, rfl, (by decide), rfl, (by decide), fun b4 => ⟨⟨en_ktexts, fun w Hw => ktexts_w (pOf lv8) 1 (cOf lv8) (some ⟨b4, 0, none⟩) 1 (fun k9 => itemAt ((3 : Nat) : Int) ([1, 0, 97, 98, 99]) k9) (fun k9 => [[97, 98, 99]].getD k9 []) (by omega) (fun i hi => it3 ⟨i, hi⟩) w (hR13.at (Has.tl (Has.tl (Has.tl (Has.tl Hw))))) (rowIn_fc (Hw 0 _ rfl))⟩, (by decide), rfl, ((cn_size _ _).trans rfl), (eqA_ok (t := 24) (t' := 24) (e := 5) (m := 16) (k := .u8) (x := (.tmp 82)) (y := (.tmp 83)) (by kernel_rfl) Try.underlying24 Try.underlying5 (by kernel_rfl) (by kernel_rfl) (by kernel_rfl) rfl rfl rfl rfl (by rfl)), (vI (bs_size _)), (List.length_replicate ..), (callP_of en_onion (onion_1) _), (by decide), (callP_of en_reply (reply_3) _), (by decide), fun ac18 wd18 FF18 MM18 => then_n ?_⟩⟩))
  refine wp_ret ?_
  repeat first | refine then_ret ?_ | refine inb_ret ?_
  exact (ret_fr FF18 0 Try.results8 rfl ⟨rfl, MM18.belowN H (fun _ hx => List.mem_cons_of_mem _ (List.mem_cons_of_mem _ (List.mem_cons_of_mem _ (List.mem_cons_of_mem _ (hs14 _ hx)))))⟩)
theorem wakes_w (w : World) : Calls Try.prog 8 #[] w fun e w' => e = .returned (.bool true) ∧ Below w.heap.size w w' := wakes_any [] trivial w (fun i y hy => by simp at hy)
end Go.Proofs.Ytjpfdmkbmpecnaa
namespace Go.Proofs.Ytjpfdmkbmpecnaa
open Go.RowKit
set_option maxHeartbeats 1000000 in
set_option maxRecDepth 100000 in
theorem tells_any (O : Blks) (hD : Distinct O) (A B C E : List Nat) (hA : ∀ i, A.getD i 0 < 256) (hB : ∀ i, B.getD i 0 < 256) (_hC : ∀ i, C.getD i 0 < 256) (hE : ∀ i, E.getD i 0 < 256) (D : List Nat) (hDl : D.length = 16) (hDb : ∀ i, D.getD i 0 < 256) (z : Int) (w0 : World) (H : Has w0 O) :
    Calls Try.prog 3 #[.agg #[sB A, sB B, sB C, sB E], .agg (cn .u8 D), .int .i64 z] w0 fun e w' => e = .returned (.bool true) ∧ Below w0.heap.size w0 w' := by
  refine enter_fr Try.func3 rfl Try.ntmps3 (by simp) fun ac (FF : Fr 142 ac [(0, aG #[sB A, sB B, sB C, sB E]), (1, .agg (cn .u8 D)), (2, .int .i64 (z : Int))]) => ?_
  have MM : MemS (fun k => k < w0.heap.size ∧ ∀ x ∈ O, x.1 ≠ k) w0 w0 O [] := MemS.startN H hD
  refine wp_seq (rg_seq FF MM [o_, o_, o_] [2, 3, 4, 6] (fun Kt => ∀ bl, ∀ bi, Kt [(6, .bool false), (4, pT bi), (3, pT bl), (2, .int .i64 (z : Int))] ((bi, .cells (cn .u8 D) 24) :: (bl, oC #[sB A, sB B, sB C, sB E] 22) :: O)) (by kernel_rfl) (fun _ => by kernel_rfl) (fun bl => fun bi => fun ac1 wd1 FF1 MM1 => then_n ?_))
  refine wp_seq ?_
  by_cases hL : sumF (fun k9 => [A, B, C, E].getD k9 []) 4 > 400
  · skip
    refine wp_seq (rg_seq FF1 MM1 [o_, u_ 1 (.bool true)] [6, 4, 3, 2, 24] (fun Kt => 0 ≤ 4 ∧ 4 ≤ 4 ∧ 0 < 4 ∧ CallP Try.prog 7 [.slice (some ⟨bl, 0, none⟩) 4 4, iN 400] ((bi, .cells (cn .u8 D) 24) :: (bl, oC #[sB A, sB B, sB C, sB E] 22) :: O) (.bool true) ∧ Kt [(24, .bool true), (6, .bool false), (4, pT bi), (3, pT bl), (2, .int .i64 (z : Int))] ((bi, .cells (cn .u8 D) 24) :: (bl, oC #[sB A, sB B, sB C, sB E] 22) :: O)) (by kernel_rfl) (fun _ => by kernel_rfl) (⟨(by decide), (by decide), (by decide), ⟨en_klong, fun w Hw => by have h0 := klong_w (some ⟨bl, 0, none⟩) 4 4 (fun k9 => [A, B, C, E].getD k9 []) (by decide) 400 (by decide) w (.inr ⟨bl, 0, _, _, _, rfl, Hw 1 _ rfl, lit4_row A B C E⟩); rw [dec_t hL] at h0; exact h0⟩, fun ac2 wd2 FF2 MM2 => then_n ?_⟩))
    refine wp_cond_true (FF2.ev 0 rfl) ?_
    refine wp_seq (rg_seq FF2 MM2 [t_ (.bool true), o_] [6, 4, 3, 2] (fun Kt => CallP Try.prog 8 [] [] (.bool true) ∧ Kt [(6, .bool true), (4, pT bi), (3, pT bl), (2, .int .i64 (z : Int))] ((bi, .cells (cn .u8 D) 24) :: (bl, oC #[sB A, sB B, sB C, sB E] 22) :: O)) (by kernel_rfl) (fun _ => by kernel_rfl) (⟨(callP_of en_wakes wakes_w _), fun ac3 wd3 FF3 MM3 => then_n ?_⟩))
    refine wp_ret ?_
    repeat first | refine then_ret ?_ | refine inb_ret ?_
    exact (ret_fr FF3 0 Try.results3 rfl ⟨rfl, MM3.belowN H (fun _ hx => List.mem_cons_of_mem _ (List.mem_cons_of_mem _ (hx)))⟩)
  · skip
    refine wp_seq (rg_seq FF1 MM1 [o_, u_ 1 (.bool false)] [6, 4, 3, 2, 24] (fun Kt => 0 ≤ 4 ∧ 4 ≤ 4 ∧ 0 < 4 ∧ CallP Try.prog 7 [.slice (some ⟨bl, 0, none⟩) 4 4, iN 400] ((bi, .cells (cn .u8 D) 24) :: (bl, oC #[sB A, sB B, sB C, sB E] 22) :: O) (.bool false) ∧ Kt [(24, .bool false), (6, .bool false), (4, pT bi), (3, pT bl), (2, .int .i64 (z : Int))] ((bi, .cells (cn .u8 D) 24) :: (bl, oC #[sB A, sB B, sB C, sB E] 22) :: O)) (by kernel_rfl) (fun _ => by kernel_rfl) (⟨(by decide), (by decide), (by decide), ⟨en_klong, fun w Hw => by have h0 := klong_w (some ⟨bl, 0, none⟩) 4 4 (fun k9 => [A, B, C, E].getD k9 []) (by decide) 400 (by decide) w (.inr ⟨bl, 0, _, _, _, rfl, Hw 1 _ rfl, lit4_row A B C E⟩); rw [dec_f hL] at h0; exact h0⟩, fun ac4 wd4 FF4 MM4 => then_n ?_⟩))
    refine wp_cond_false (FF4.ev 0 rfl) ?_
    refine wp_skip ?_
    refine then_n ?_
    refine wp_seq (rg_seq FF4 MM4 [w_ 1, l_ 1 (sB A), t_ (.tuple #[sB ((bodyR A).1), iN ((bodyR A).2)]), o_, o_, o_, o_, o_] [6, 4, 3, 2, 7, 8] (fun Kt => 0 < 4 ∧ bl = bl ∧ (#[sB A, sB B, sB C, sB E] : Array Value)[0]? = some (sB A) ∧ CallP Try.prog 9 [sB A] [] (.tuple #[sB ((bodyR A).1), iN ((bodyR A).2)]) ∧ Kt [(8, iN ((bodyR A).2)), (7, sB ((bodyR A).1)), (6, .bool false), (4, pT bi), (3, pT bl), (2, .int .i64 (z : Int))] ((bi, .cells (cn .u8 D) 24) :: (bl, oC #[sB A, sB B, sB C, sB E] 22) :: O)) (by kernel_rfl) (fun _ => by kernel_rfl) (⟨(by decide), rfl, rfl, (callP_of en_body (body_any A hA) _), fun ac5 wd5 FF5 MM5 => then_n ?_⟩))
    refine wp_seq (rg_seq FF5 MM5 [w_ 1, l_ 1 (sB A), t_ (.tuple #[sB ((bodyR A).1), iN ((bodyR A).2)]), o_, o_, o_, o_, o_] [8, 7, 6, 4, 3, 2, 9, 10] (fun Kt => 0 < 4 ∧ bl = bl ∧ (#[sB A, sB B, sB C, sB E] : Array Value)[0]? = some (sB A) ∧ CallP Try.prog 10 [sB A] [] (.tuple #[sB ((bodyR A).1), iN ((bodyR A).2)]) ∧ Kt [(10, iN ((bodyR A).2)), (9, sB ((bodyR A).1)), (8, iN ((bodyR A).2)), (7, sB ((bodyR A).1)), (6, .bool false), (4, pT bi), (3, pT bl), (2, .int .i64 (z : Int))] ((bi, .cells (cn .u8 D) 24) :: (bl, oC #[sB A, sB B, sB C, sB E] 22) :: O)) (by kernel_rfl) (fun _ => by kernel_rfl) (⟨(by decide), rfl, rfl, (callP_of en_rbody (rbody_any A hA) _), fun ac6 wd6 FF6 MM6 => then_n ?_⟩))
    refine wp_seq (rg_seq FF6 MM6 [w_ 1, l_ 1 (sB B), t_ (.tuple #[sB ((textR B).1), .bool ((textR B).2)]), o_, o_, o_, o_, o_] [10, 9, 8, 7, 6, 4, 3, 2, 11, 12] (fun Kt => 1 < 4 ∧ bl = bl ∧ (#[sB A, sB B, sB C, sB E] : Array Value)[1]? = some (sB B) ∧ CallP Try.prog 11 [sB B] [] (.tuple #[sB ((textR B).1), .bool ((textR B).2)]) ∧ Kt [(12, .bool ((textR B).2)), (11, sB ((textR B).1)), (10, iN ((bodyR A).2)), (9, sB ((bodyR A).1)), (8, iN ((bodyR A).2)), (7, sB ((bodyR A).1)), (6, .bool false), (4, pT bi), (3, pT bl), (2, .int .i64 (z : Int))] ((bi, .cells (cn .u8 D) 24) :: (bl, oC #[sB A, sB B, sB C, sB E] 22) :: O)) (by kernel_rfl) (fun _ => by kernel_rfl) (⟨(by decide), rfl, rfl, (callP_of en_text (text_any B hB) _), fun ac7 wd7 FF7 MM7 => then_n ?_⟩))
    refine wp_seq (rg_seq FF7 MM7 [w_ 1, l_ 1 (sB B), t_ (.tuple #[sB ((textR B).1), .bool ((textR B).2)]), o_, o_, o_, o_, o_] [12, 11, 10, 9, 8, 7, 6, 4, 3, 2, 13, 14] (fun Kt => 1 < 4 ∧ bl = bl ∧ (#[sB A, sB B, sB C, sB E] : Array Value)[1]? = some (sB B) ∧ CallP Try.prog 12 [sB B] [] (.tuple #[sB ((textR B).1), .bool ((textR B).2)]) ∧ Kt [(14, .bool ((textR B).2)), (13, sB ((textR B).1)), (12, .bool ((textR B).2)), (11, sB ((textR B).1)), (10, iN ((bodyR A).2)), (9, sB ((bodyR A).1)), (8, iN ((bodyR A).2)), (7, sB ((bodyR A).1)), (6, .bool false), (4, pT bi), (3, pT bl), (2, .int .i64 (z : Int))] ((bi, .cells (cn .u8 D) 24) :: (bl, oC #[sB A, sB B, sB C, sB E] 22) :: O)) (by kernel_rfl) (fun _ => by kernel_rfl) (⟨(by decide), rfl, rfl, (callP_of en_rtext (rtext_any B hB) _), fun ac8 wd8 FF8 MM8 => then_n ?_⟩))
    by_cases h36 : C.length = 36
    · skip
      refine wp_seq (rg_seq FF8 MM8 [b_ 0, w_ 1, l_ 1 (sB C), t_ (.tuple #[sB (D ++ C), iN 0]), o_, o_, o_, o_, o_] [14, 13, 12, 11, 10, 9, 8, 7, 6, 4, 3, 2, 15, 16] (fun Kt => bi = bi ∧ (cn .u8 D).size = 16 ∧ 2 < 4 ∧ bl = bl ∧ (#[sB A, sB B, sB C, sB E] : Array Value)[2]? = some (sB C) ∧ CallP Try.prog 13 [.agg (cn .u8 D), sB C] [] (.tuple #[sB (D ++ C), iN 0]) ∧ Kt [(16, iN 0), (15, sB (D ++ C)), (14, .bool ((textR B).2)), (13, sB ((textR B).1)), (12, .bool ((textR B).2)), (11, sB ((textR B).1)), (10, iN ((bodyR A).2)), (9, sB ((bodyR A).1)), (8, iN ((bodyR A).2)), (7, sB ((bodyR A).1)), (6, .bool false), (4, pT bi), (3, pT bl), (2, .int .i64 (z : Int))] ((bi, .cells (cn .u8 D) 24) :: (bl, oC #[sB A, sB B, sB C, sB E] 22) :: O)) (by kernel_rfl) (fun _ => by kernel_rfl) (⟨rfl, ((cn_size _ _).trans hDl), (by decide), rfl, rfl, (callP_of en_request (fun w => by have h0 := request_any D hDl hDb C w; rw [requestR_ok h36] at h0; exact h0) _), fun ac9 wd9 FF9 MM9 => then_n ?_⟩))
      refine wp_seq (rg_seq FF9 MM9 [w_ 1, l_ 1 (sB E), t_ (.tuple #[.agg (cn .u8 ((partsR E).1)), sB ((partsR E).2.1), .bool ((partsR E).2.2)]), o_, o_, o_, o_, o_, b_ 0, o_, o_] [16, 15, 14, 13, 12, 11, 10, 9, 8, 7, 6, 4, 3, 2, 17, 18, 19] (fun Kt => 3 < 4 ∧ bl = bl ∧ (#[sB A, sB B, sB C, sB E] : Array Value)[3]? = some (sB E) ∧ CallP Try.prog 14 [sB E] [] (.tuple #[.agg (cn .u8 ((partsR E).1)), sB ((partsR E).2.1), .bool ((partsR E).2.2)]) ∧ ∀ bp, bp = bp ∧ (cn .u8 (List.replicate 16 0)).size = 16 ∧ (cn .u8 ((partsR E).1)).size = 16 ∧ (cn .u8 ((partsR E).1)).all (·.oneCell') = true ∧ (0, 0).2 = 0 ∧ Kt [(19, .bool ((partsR E).2.2)), (18, sB ((partsR E).2.1)), (17, pT bp), (16, iN 0), (15, sB (D ++ C)), (14, .bool ((textR B).2)), (13, sB ((textR B).1)), (12, .bool ((textR B).2)), (11, sB ((textR B).1)), (10, iN ((bodyR A).2)), (9, sB ((bodyR A).1)), (8, iN ((bodyR A).2)), (7, sB ((bodyR A).1)), (6, .bool false), (4, pT bi), (3, pT bl), (2, .int .i64 (z : Int))] ((bp, .cells (cn .u8 ((partsR E).1)) 24) :: (bi, .cells (cn .u8 D) 24) :: (bl, oC #[sB A, sB B, sB C, sB E] 22) :: O)) (by kernel_rfl) (fun _ => by kernel_rfl) (⟨(by decide), rfl, rfl, (callP_of en_parts (parts_any E hE) _), fun bp => ⟨rfl, ((cn_size _ _).trans (List.length_replicate ..)), ((cn_size _ _).trans (partsR_len E)), (cn_one _ _), rfl, fun ac10 wd10 FF10 MM10 => then_n ?_⟩⟩))
      refine wp_seq (rg_seq FF10 MM10 [w_ 1, l_ 2 (sB E), t_ (.tuple #[.agg (cn .u8 ((partsR E).1)), sB ((partsR E).2.1), .bool ((partsR E).2.2)]), o_, o_, o_, o_, o_, b_ 0, o_, o_] [19, 18, 17, 16, 15, 14, 13, 12, 11, 10, 9, 8, 7, 6, 4, 3, 2, 20, 21, 22] (fun Kt => 3 < 4 ∧ bl = bl ∧ (#[sB A, sB B, sB C, sB E] : Array Value)[3]? = some (sB E) ∧ CallP Try.prog 15 [sB E] [] (.tuple #[.agg (cn .u8 ((partsR E).1)), sB ((partsR E).2.1), .bool ((partsR E).2.2)]) ∧ ∀ bq, bq = bq ∧ (cn .u8 (List.replicate 16 0)).size = 16 ∧ (cn .u8 ((partsR E).1)).size = 16 ∧ (cn .u8 ((partsR E).1)).all (·.oneCell') = true ∧ (0, 0).2 = 0 ∧ Kt [(22, .bool ((partsR E).2.2)), (21, sB ((partsR E).2.1)), (20, pT bq), (19, .bool ((partsR E).2.2)), (18, sB ((partsR E).2.1)), (17, pT bp), (16, iN 0), (15, sB (D ++ C)), (14, .bool ((textR B).2)), (13, sB ((textR B).1)), (12, .bool ((textR B).2)), (11, sB ((textR B).1)), (10, iN ((bodyR A).2)), (9, sB ((bodyR A).1)), (8, iN ((bodyR A).2)), (7, sB ((bodyR A).1)), (6, .bool false), (4, pT bi), (3, pT bl), (2, .int .i64 (z : Int))] ((bq, .cells (cn .u8 ((partsR E).1)) 23) :: (bp, .cells (cn .u8 ((partsR E).1)) 24) :: (bi, .cells (cn .u8 D) 24) :: (bl, oC #[sB A, sB B, sB C, sB E] 22) :: O)) (by kernel_rfl) (fun _ => by kernel_rfl) (⟨(by decide), rfl, rfl, (callP_of en_rparts (rparts_any E hE) _), fun bq => ⟨rfl, ((cn_size _ _).trans (List.length_replicate ..)), ((cn_size _ _).trans (partsR_len E)), (cn_one _ _), rfl, fun ac11 wd11 FF11 MM11 => then_n ?_⟩⟩))
      refine wp_seq ?_
      refine wp_seq (rg_seq FF11 MM11 [w_ 1, l_ 3 (sB C), t_ (iN C.length), w_ 2] [22, 21, 20, 19, 18, 17, 16, 15, 14, 13, 12, 11, 10, 9, 8, 7, 6, 4, 3, 2, 74] (fun Kt => 2 < 4 ∧ bl = bl ∧ (#[sB A, sB B, sB C, sB E] : Array Value)[2]? = some (sB C) ∧ iN ((bs C).size) = iN C.length ∧ C.length = 36 ∧ Kt [(74, .bool true), (22, .bool ((partsR E).2.2)), (21, sB ((partsR E).2.1)), (20, pT bq), (19, .bool ((partsR E).2.2)), (18, sB ((partsR E).2.1)), (17, pT bp), (16, iN 0), (15, sB (D ++ C)), (14, .bool ((textR B).2)), (13, sB ((textR B).1)), (12, .bool ((textR B).2)), (11, sB ((textR B).1)), (10, iN ((bodyR A).2)), (9, sB ((bodyR A).1)), (8, iN ((bodyR A).2)), (7, sB ((bodyR A).1)), (6, .bool false), (4, pT bi), (3, pT bl), (2, .int .i64 (z : Int))] ((bq, .cells (cn .u8 ((partsR E).1)) 23) :: (bp, .cells (cn .u8 ((partsR E).1)) 24) :: (bi, .cells (cn .u8 D) 24) :: (bl, oC #[sB A, sB B, sB C, sB E] 22) :: O)) (by kernel_rfl) (fun _ => by kernel_rfl) (⟨(by decide), rfl, rfl, (vI (bs_size _)), h36, fun ac12 wd12 FF12 MM12 => then_n ?_⟩))
      refine wp_cond_true (FF12.ev 0 rfl) ?_
      refine wp_seq (rg_draw FF12 MM12 [.inl (sB (D ++ C)), .inl (.slice (some ⟨bi, 0, none⟩) 16 16), .inl (sB D), .inl (.pointer (some ⟨bl, 2, none⟩)), .inl (sB C), .inl (sB (D ++ C)), .inl (.bool false), .inl (.bool false), .inl (iN 0), .inl (.bool false), .inl (.bool false)] [] [o_, o_, l_ 2 (sB D), w_ 1, l_ 3 (sB C), t_ (sB (D ++ C)), w_ 3, o_, o_, w_ 3, o_] [] [22, 21, 20, 19, 18, 17, 16, 15, 14, 13, 12, 11, 10, 9, 8, 7, 6, 4, 3, 2, 85] (fun nb => [0 ≤ 16, 16 ≤ 16, 0 < 16, bi = bi, StrAt (cn .u8 D) 0 16 (bs D), 2 < 4, bl = bl, (#[sB A, sB B, sB C, sB E] : Array Value)[2]? = some (sB C), (bs D).size + (bs C).size ≤ 9223372036854775807, Value.string (bs D ++ bs C) = sB (D ++ C), ¬ (bs (D ++ C) ≠ bs (D ++ C)), ¬ (0 ≠ 0)]) (fun nb Kt => Kt [(85, .bool false), (22, .bool ((partsR E).2.2)), (21, sB ((partsR E).2.1)), (20, pT bq), (19, .bool ((partsR E).2.2)), (18, sB ((partsR E).2.1)), (17, pT bp), (16, iN 0), (15, sB (D ++ C)), (14, .bool ((textR B).2)), (13, sB ((textR B).1)), (12, .bool ((textR B).2)), (11, sB ((textR B).1)), (10, iN ((bodyR A).2)), (9, sB ((bodyR A).1)), (8, iN ((bodyR A).2)), (7, sB ((bodyR A).1)), (6, .bool false), (4, pT bi), (3, pT bl), (2, .int .i64 (z : Int))] ((bq, .cells (cn .u8 ((partsR E).1)) 23) :: (bp, .cells (cn .u8 ((partsR E).1)) 24) :: (bi, .cells (cn .u8 D) 24) :: (bl, oC #[sB A, sB B, sB C, sB E] 22) :: O)) (by kernel_rfl) (by kernel_rfl) (by kernel_rfl) (fun _ => by kernel_rfl) (fun _ _ => by kernel_rfl) trivial (fun nb => ⟨(by decide), (by decide), (by decide), rfl, (str_all hDl hDb), (by decide), rfl, rfl, (by simp only [bs_size]; omega), (vS2 (bs_app _ _)), (fun h => h rfl), (by decide), trivial⟩) (fun nb => fun ac13 wd13 FF13 MM13 => then_n ?_))
      refine wp_cond_false (FF13.ev 0 rfl) ?_
      refine wp_skip ?_
      refine then_n ?_
      refine wp_seq (rg_seq FF13 MM13 [o_, o_, w_ 2, o_, o_, o_, w_ 2, o_, o_, o_, o_, w_ 2, o_, o_, o_, o_, f_ (.bool true), o_, o_, b_ 1, b_ 0, f_ (.bool true), o_, o_, o_, o_, w_ 2, o_, o_, o_, o_, f_ (.bool true), o_, o_, o_, t_ (iN (onionZ z)), o_, t_ (iN (onionZ z)), w_ 2, o_, o_, o_, t_ (iN (replyZ z)), o_, t_ (iN (replyZ z)), w_ 2, o_, o_, t_ (.bool true), o_, o_] [20, 17, 16, 15, 6, 4, 3] (fun Kt => bs ((bodyR A).1) = bs ((bodyR A).1) ∧ ((bodyR A).2) = ((bodyR A).2) ∧ bs ((textR B).1) = bs ((textR B).1) ∧ RunV Try.prog [(107, .bool ((textR B).2)), (106, .bool ((textR B).2)), (105, .bool true), (104, .bool true), (103, .bool true), (102, sB ((textR B).1)), (101, sB ((textR B).1)), (100, .bool true), (99, .bool true), (98, .bool true), (97, iN ((bodyR A).2)), (96, iN ((bodyR A).2)), (95, .bool true), (94, .bool true), (93, sB ((bodyR A).1)), (92, sB ((bodyR A).1)), (85, .bool false), (22, .bool ((partsR E).2.2)), (21, sB ((partsR E).2.1)), (20, pT bq), (19, .bool ((partsR E).2.2)), (18, sB ((partsR E).2.1)), (17, pT bp), (16, iN 0), (15, sB (D ++ C)), (14, .bool ((textR B).2)), (13, sB ((textR B).1)), (12, .bool ((textR B).2)), (11, sB ((textR B).1)), (10, iN ((bodyR A).2)), (9, sB ((bodyR A).1)), (8, iN ((bodyR A).2)), (7, sB ((bodyR A).1)), (6, .bool false), (4, pT bi), (3, pT bl), (2, .int .i64 (z : Int))] ((bq, .cells (cn .u8 ((partsR E).1)) 23) :: (bp, .cells (cn .u8 ((partsR E).1)) 24) :: (bi, .cells (cn .u8 D) 24) :: (bl, oC #[sB A, sB B, sB C, sB E] 22) :: O) (opAt Try.f3 15 16) (.bool true) ∧ bp = bp ∧ (cn .u8 ((partsR E).1)).size = 16 ∧ bq = bq ∧ (cn .u8 ((partsR E).1)).size = 16 ∧ RunV Try.prog [(112, .agg (cn .u8 ((partsR E).1))), (111, .agg (cn .u8 ((partsR E).1))), (110, .bool true), (109, .bool true), (108, .bool true), (107, .bool ((textR B).2)), (106, .bool ((textR B).2)), (105, .bool true), (104, .bool true), (103, .bool true), (102, sB ((textR B).1)), (101, sB ((textR B).1)), (100, .bool true), (99, .bool true), (98, .bool true), (97, iN ((bodyR A).2)), (96, iN ((bodyR A).2)), (95, .bool true), (94, .bool true), (93, sB ((bodyR A).1)), (92, sB ((bodyR A).1)), (85, .bool false), (22, .bool ((partsR E).2.2)), (21, sB ((partsR E).2.1)), (20, pT bq), (19, .bool ((partsR E).2.2)), (18, sB ((partsR E).2.1)), (17, pT bp), (16, iN 0), (15, sB (D ++ C)), (14, .bool ((textR B).2)), (13, sB ((textR B).1)), (12, .bool ((textR B).2)), (11, sB ((textR B).1)), (10, iN ((bodyR A).2)), (9, sB ((bodyR A).1)), (8, iN ((bodyR A).2)), (7, sB ((bodyR A).1)), (6, .bool false), (4, pT bi), (3, pT bl), (2, .int .i64 (z : Int))] ((bq, .cells (cn .u8 ((partsR E).1)) 23) :: (bp, .cells (cn .u8 ((partsR E).1)) 24) :: (bi, .cells (cn .u8 D) 24) :: (bl, oC #[sB A, sB B, sB C, sB E] 22) :: O) (opAt Try.f3 15 21) (.bool true) ∧ bs ((partsR E).2.1) = bs ((partsR E).2.1) ∧ RunV Try.prog [(122, .bool ((partsR E).2.2)), (121, .bool ((partsR E).2.2)), (120, .bool true), (119, .bool true), (118, .bool true), (117, sB ((partsR E).2.1)), (116, sB ((partsR E).2.1)), (115, .bool true), (114, .bool true), (113, .bool true), (112, .agg (cn .u8 ((partsR E).1))), (111, .agg (cn .u8 ((partsR E).1))), (110, .bool true), (109, .bool true), (108, .bool true), (107, .bool ((textR B).2)), (106, .bool ((textR B).2)), (105, .bool true), (104, .bool true), (103, .bool true), (102, sB ((textR B).1)), (101, sB ((textR B).1)), (100, .bool true), (99, .bool true), (98, .bool true), (97, iN ((bodyR A).2)), (96, iN ((bodyR A).2)), (95, .bool true), (94, .bool true), (93, sB ((bodyR A).1)), (92, sB ((bodyR A).1)), (85, .bool false), (22, .bool ((partsR E).2.2)), (21, sB ((partsR E).2.1)), (20, pT bq), (19, .bool ((partsR E).2.2)), (18, sB ((partsR E).2.1)), (17, pT bp), (16, iN 0), (15, sB (D ++ C)), (14, .bool ((textR B).2)), (13, sB ((textR B).1)), (12, .bool ((textR B).2)), (11, sB ((textR B).1)), (10, iN ((bodyR A).2)), (9, sB ((bodyR A).1)), (8, iN ((bodyR A).2)), (7, sB ((bodyR A).1)), (6, .bool false), (4, pT bi), (3, pT bl), (2, .int .i64 (z : Int))] ((bq, .cells (cn .u8 ((partsR E).1)) 23) :: (bp, .cells (cn .u8 ((partsR E).1)) 24) :: (bi, .cells (cn .u8 D) 24) :: (bl, oC #[sB A, sB B, sB C, sB E] 22) :: O) (opAt Try.f3 15 31) (.bool true) ∧ CallP Try.prog 16 [.int .i64 (z : Int)] [] (iN (onionZ z)) ∧ CallP Try.prog 17 [.int .i64 (z : Int)] [] (iN (onionZ z)) ∧ (onionZ z) = (onionZ z) ∧ CallP Try.prog 18 [.int .i64 (z : Int)] [] (iN (replyZ z)) ∧ CallP Try.prog 19 [.int .i64 (z : Int)] [] (iN (replyZ z)) ∧ (replyZ z) = (replyZ z) ∧ CallP Try.prog 8 [] [] (.bool true) ∧ Kt [(6, .bool true), (20, pT bq), (17, pT bp), (16, iN 0), (15, sB (D ++ C)), (4, pT bi), (3, pT bl)] ((bq, .cells (cn .u8 ((partsR E).1)) 23) :: (bp, .cells (cn .u8 ((partsR E).1)) 24) :: (bi, .cells (cn .u8 D) 24) :: (bl, oC #[sB A, sB B, sB C, sB E] 22) :: O)) (by kernel_rfl) (fun _ => by kernel_rfl) (⟨rfl, rfl, rfl, (eqB_same (eqB_ok (t := 4) (t' := 4) (x := (.tmp 106)) (y := (.tmp 107)) (p := (textR B).2) (q := (textR B).2) (by kernel_rfl) Try.underlying4 rfl rfl)), rfl, ((cn_size _ _).trans (partsR_len E)), rfl, ((cn_size _ _).trans (partsR_len E)), (eqA_ok (t := 24) (t' := 24) (e := 5) (m := 16) (k := .u8) (x := (.tmp 111)) (y := (.tmp 112)) (by kernel_rfl) Try.underlying24 Try.underlying5 (by kernel_rfl) (by kernel_rfl) (by kernel_rfl) rfl rfl (partsR_len E) (partsR_len E) (decide_eq_true rfl)), rfl, (eqB_same (eqB_ok (t := 4) (t' := 4) (x := (.tmp 121)) (y := (.tmp 122)) (p := (partsR E).2.2) (q := (partsR E).2.2) (by kernel_rfl) Try.underlying4 rfl rfl)), (callP_of en_onion (onion_any z) _), (callP_of en_ronion (ronion_any z) _), rfl, (callP_of en_reply (reply_any z) _), (callP_of en_rreply (rreply_any z) _), rfl, (callP_of en_wakes wakes_w _), fun ac14 wd14 FF14 MM14 => then_n ?_⟩))
      refine wp_ret ?_
      repeat first | refine then_ret ?_ | refine inb_ret ?_
      exact (ret_fr FF14 0 Try.results3 rfl ⟨rfl, MM14.belowN H (fun _ hx => List.mem_cons_of_mem _ (List.mem_cons_of_mem _ (List.mem_cons_of_mem _ (List.mem_cons_of_mem _ (hx)))))⟩)
    · skip
      refine wp_seq (rg_seq FF8 MM8 [b_ 0, w_ 1, l_ 1 (sB C), t_ (.tuple #[sB [], iN 5]), o_, o_, o_, o_, o_] [14, 13, 12, 11, 10, 9, 8, 7, 6, 4, 3, 2, 15, 16] (fun Kt => bi = bi ∧ (cn .u8 D).size = 16 ∧ 2 < 4 ∧ bl = bl ∧ (#[sB A, sB B, sB C, sB E] : Array Value)[2]? = some (sB C) ∧ CallP Try.prog 13 [.agg (cn .u8 D), sB C] [] (.tuple #[sB [], iN 5]) ∧ Kt [(16, iN 5), (15, sB []), (14, .bool ((textR B).2)), (13, sB ((textR B).1)), (12, .bool ((textR B).2)), (11, sB ((textR B).1)), (10, iN ((bodyR A).2)), (9, sB ((bodyR A).1)), (8, iN ((bodyR A).2)), (7, sB ((bodyR A).1)), (6, .bool false), (4, pT bi), (3, pT bl), (2, .int .i64 (z : Int))] ((bi, .cells (cn .u8 D) 24) :: (bl, oC #[sB A, sB B, sB C, sB E] 22) :: O)) (by kernel_rfl) (fun _ => by kernel_rfl) (⟨rfl, ((cn_size _ _).trans hDl), (by decide), rfl, rfl, (callP_of en_request (fun w => by have h0 := request_any D hDl hDb C w; rw [requestR_no h36] at h0; exact h0) _), fun ac15 wd15 FF15 MM15 => then_n ?_⟩))
      refine wp_seq (rg_seq FF15 MM15 [w_ 1, l_ 1 (sB E), t_ (.tuple #[.agg (cn .u8 ((partsR E).1)), sB ((partsR E).2.1), .bool ((partsR E).2.2)]), o_, o_, o_, o_, o_, b_ 0, o_, o_] [16, 15, 14, 13, 12, 11, 10, 9, 8, 7, 6, 4, 3, 2, 17, 18, 19] (fun Kt => 3 < 4 ∧ bl = bl ∧ (#[sB A, sB B, sB C, sB E] : Array Value)[3]? = some (sB E) ∧ CallP Try.prog 14 [sB E] [] (.tuple #[.agg (cn .u8 ((partsR E).1)), sB ((partsR E).2.1), .bool ((partsR E).2.2)]) ∧ ∀ bp, bp = bp ∧ (cn .u8 (List.replicate 16 0)).size = 16 ∧ (cn .u8 ((partsR E).1)).size = 16 ∧ (cn .u8 ((partsR E).1)).all (·.oneCell') = true ∧ (0, 0).2 = 0 ∧ Kt [(19, .bool ((partsR E).2.2)), (18, sB ((partsR E).2.1)), (17, pT bp), (16, iN 5), (15, sB []), (14, .bool ((textR B).2)), (13, sB ((textR B).1)), (12, .bool ((textR B).2)), (11, sB ((textR B).1)), (10, iN ((bodyR A).2)), (9, sB ((bodyR A).1)), (8, iN ((bodyR A).2)), (7, sB ((bodyR A).1)), (6, .bool false), (4, pT bi), (3, pT bl), (2, .int .i64 (z : Int))] ((bp, .cells (cn .u8 ((partsR E).1)) 24) :: (bi, .cells (cn .u8 D) 24) :: (bl, oC #[sB A, sB B, sB C, sB E] 22) :: O)) (by kernel_rfl) (fun _ => by kernel_rfl) (⟨(by decide), rfl, rfl, (callP_of en_parts (parts_any E hE) _), fun bp => ⟨rfl, ((cn_size _ _).trans (List.length_replicate ..)), ((cn_size _ _).trans (partsR_len E)), (cn_one _ _), rfl, fun ac16 wd16 FF16 MM16 => then_n ?_⟩⟩))
      refine wp_seq (rg_seq FF16 MM16 [w_ 1, l_ 2 (sB E), t_ (.tuple #[.agg (cn .u8 ((partsR E).1)), sB ((partsR E).2.1), .bool ((partsR E).2.2)]), o_, o_, o_, o_, o_, b_ 0, o_, o_] [19, 18, 17, 16, 15, 14, 13, 12, 11, 10, 9, 8, 7, 6, 4, 3, 2, 20, 21, 22] (fun Kt => 3 < 4 ∧ bl = bl ∧ (#[sB A, sB B, sB C, sB E] : Array Value)[3]? = some (sB E) ∧ CallP Try.prog 15 [sB E] [] (.tuple #[.agg (cn .u8 ((partsR E).1)), sB ((partsR E).2.1), .bool ((partsR E).2.2)]) ∧ ∀ bq, bq = bq ∧ (cn .u8 (List.replicate 16 0)).size = 16 ∧ (cn .u8 ((partsR E).1)).size = 16 ∧ (cn .u8 ((partsR E).1)).all (·.oneCell') = true ∧ (0, 0).2 = 0 ∧ Kt [(22, .bool ((partsR E).2.2)), (21, sB ((partsR E).2.1)), (20, pT bq), (19, .bool ((partsR E).2.2)), (18, sB ((partsR E).2.1)), (17, pT bp), (16, iN 5), (15, sB []), (14, .bool ((textR B).2)), (13, sB ((textR B).1)), (12, .bool ((textR B).2)), (11, sB ((textR B).1)), (10, iN ((bodyR A).2)), (9, sB ((bodyR A).1)), (8, iN ((bodyR A).2)), (7, sB ((bodyR A).1)), (6, .bool false), (4, pT bi), (3, pT bl), (2, .int .i64 (z : Int))] ((bq, .cells (cn .u8 ((partsR E).1)) 23) :: (bp, .cells (cn .u8 ((partsR E).1)) 24) :: (bi, .cells (cn .u8 D) 24) :: (bl, oC #[sB A, sB B, sB C, sB E] 22) :: O)) (by kernel_rfl) (fun _ => by kernel_rfl) (⟨(by decide), rfl, rfl, (callP_of en_rparts (rparts_any E hE) _), fun bq => ⟨rfl, ((cn_size _ _).trans (List.length_replicate ..)), ((cn_size _ _).trans (partsR_len E)), (cn_one _ _), rfl, fun ac17 wd17 FF17 MM17 => then_n ?_⟩⟩))
      refine wp_seq ?_
      refine wp_seq (rg_seq FF17 MM17 [w_ 1, l_ 3 (sB C), t_ (iN C.length), w_ 3] [22, 21, 20, 19, 18, 17, 16, 15, 14, 13, 12, 11, 10, 9, 8, 7, 6, 4, 3, 2, 74] (fun Kt => 2 < 4 ∧ bl = bl ∧ (#[sB A, sB B, sB C, sB E] : Array Value)[2]? = some (sB C) ∧ iN ((bs C).size) = iN C.length ∧ ¬ (C.length = 36) ∧ Kt [(74, .bool false), (22, .bool ((partsR E).2.2)), (21, sB ((partsR E).2.1)), (20, pT bq), (19, .bool ((partsR E).2.2)), (18, sB ((partsR E).2.1)), (17, pT bp), (16, iN 5), (15, sB []), (14, .bool ((textR B).2)), (13, sB ((textR B).1)), (12, .bool ((textR B).2)), (11, sB ((textR B).1)), (10, iN ((bodyR A).2)), (9, sB ((bodyR A).1)), (8, iN ((bodyR A).2)), (7, sB ((bodyR A).1)), (6, .bool false), (4, pT bi), (3, pT bl), (2, .int .i64 (z : Int))] ((bq, .cells (cn .u8 ((partsR E).1)) 23) :: (bp, .cells (cn .u8 ((partsR E).1)) 24) :: (bi, .cells (cn .u8 D) 24) :: (bl, oC #[sB A, sB B, sB C, sB E] 22) :: O)) (by kernel_rfl) (fun _ => by kernel_rfl) (⟨(by decide), rfl, rfl, (vI (bs_size _)), h36, fun ac18 wd18 FF18 MM18 => then_n ?_⟩))
      refine wp_cond_false (FF18.ev 0 rfl) ?_
      refine wp_seq (rg_seq FF18 MM18 [o_, w_ 3, o_, o_, w_ 3, o_] [22, 21, 20, 19, 18, 17, 16, 15, 14, 13, 12, 11, 10, 9, 8, 7, 6, 4, 3, 2, 91] (fun Kt => ¬ (bs [] ≠ bs []) ∧ ¬ (5 ≠ 5) ∧ Kt [(91, .bool false), (22, .bool ((partsR E).2.2)), (21, sB ((partsR E).2.1)), (20, pT bq), (19, .bool ((partsR E).2.2)), (18, sB ((partsR E).2.1)), (17, pT bp), (16, iN 5), (15, sB []), (14, .bool ((textR B).2)), (13, sB ((textR B).1)), (12, .bool ((textR B).2)), (11, sB ((textR B).1)), (10, iN ((bodyR A).2)), (9, sB ((bodyR A).1)), (8, iN ((bodyR A).2)), (7, sB ((bodyR A).1)), (6, .bool false), (4, pT bi), (3, pT bl), (2, .int .i64 (z : Int))] ((bq, .cells (cn .u8 ((partsR E).1)) 23) :: (bp, .cells (cn .u8 ((partsR E).1)) 24) :: (bi, .cells (cn .u8 D) 24) :: (bl, oC #[sB A, sB B, sB C, sB E] 22) :: O)) (by kernel_rfl) (fun _ => by kernel_rfl) (⟨(fun h => h rfl), (by decide), fun ac19 wd19 FF19 MM19 => then_n ?_⟩))
      refine wp_cond_false (FF19.ev 0 rfl) ?_
      refine wp_skip ?_
      refine then_n ?_
      refine wp_seq (rg_seq FF19 MM19 [o_, o_, w_ 2, o_, o_, o_, w_ 2, o_, o_, o_, o_, w_ 2, o_, o_, o_, o_, f_ (.bool true), o_, o_, b_ 1, b_ 0, f_ (.bool true), o_, o_, o_, o_, w_ 2, o_, o_, o_, o_, f_ (.bool true), o_, o_, o_, t_ (iN (onionZ z)), o_, t_ (iN (onionZ z)), w_ 2, o_, o_, o_, t_ (iN (replyZ z)), o_, t_ (iN (replyZ z)), w_ 2, o_, o_, t_ (.bool true), o_, o_] [20, 17, 16, 15, 6, 4, 3] (fun Kt => bs ((bodyR A).1) = bs ((bodyR A).1) ∧ ((bodyR A).2) = ((bodyR A).2) ∧ bs ((textR B).1) = bs ((textR B).1) ∧ RunV Try.prog [(107, .bool ((textR B).2)), (106, .bool ((textR B).2)), (105, .bool true), (104, .bool true), (103, .bool true), (102, sB ((textR B).1)), (101, sB ((textR B).1)), (100, .bool true), (99, .bool true), (98, .bool true), (97, iN ((bodyR A).2)), (96, iN ((bodyR A).2)), (95, .bool true), (94, .bool true), (93, sB ((bodyR A).1)), (92, sB ((bodyR A).1)), (91, .bool false), (22, .bool ((partsR E).2.2)), (21, sB ((partsR E).2.1)), (20, pT bq), (19, .bool ((partsR E).2.2)), (18, sB ((partsR E).2.1)), (17, pT bp), (16, iN 5), (15, sB []), (14, .bool ((textR B).2)), (13, sB ((textR B).1)), (12, .bool ((textR B).2)), (11, sB ((textR B).1)), (10, iN ((bodyR A).2)), (9, sB ((bodyR A).1)), (8, iN ((bodyR A).2)), (7, sB ((bodyR A).1)), (6, .bool false), (4, pT bi), (3, pT bl), (2, .int .i64 (z : Int))] ((bq, .cells (cn .u8 ((partsR E).1)) 23) :: (bp, .cells (cn .u8 ((partsR E).1)) 24) :: (bi, .cells (cn .u8 D) 24) :: (bl, oC #[sB A, sB B, sB C, sB E] 22) :: O) (opAt Try.f3 15 16) (.bool true) ∧ bp = bp ∧ (cn .u8 ((partsR E).1)).size = 16 ∧ bq = bq ∧ (cn .u8 ((partsR E).1)).size = 16 ∧ RunV Try.prog [(112, .agg (cn .u8 ((partsR E).1))), (111, .agg (cn .u8 ((partsR E).1))), (110, .bool true), (109, .bool true), (108, .bool true), (107, .bool ((textR B).2)), (106, .bool ((textR B).2)), (105, .bool true), (104, .bool true), (103, .bool true), (102, sB ((textR B).1)), (101, sB ((textR B).1)), (100, .bool true), (99, .bool true), (98, .bool true), (97, iN ((bodyR A).2)), (96, iN ((bodyR A).2)), (95, .bool true), (94, .bool true), (93, sB ((bodyR A).1)), (92, sB ((bodyR A).1)), (91, .bool false), (22, .bool ((partsR E).2.2)), (21, sB ((partsR E).2.1)), (20, pT bq), (19, .bool ((partsR E).2.2)), (18, sB ((partsR E).2.1)), (17, pT bp), (16, iN 5), (15, sB []), (14, .bool ((textR B).2)), (13, sB ((textR B).1)), (12, .bool ((textR B).2)), (11, sB ((textR B).1)), (10, iN ((bodyR A).2)), (9, sB ((bodyR A).1)), (8, iN ((bodyR A).2)), (7, sB ((bodyR A).1)), (6, .bool false), (4, pT bi), (3, pT bl), (2, .int .i64 (z : Int))] ((bq, .cells (cn .u8 ((partsR E).1)) 23) :: (bp, .cells (cn .u8 ((partsR E).1)) 24) :: (bi, .cells (cn .u8 D) 24) :: (bl, oC #[sB A, sB B, sB C, sB E] 22) :: O) (opAt Try.f3 15 21) (.bool true) ∧ bs ((partsR E).2.1) = bs ((partsR E).2.1) ∧ RunV Try.prog [(122, .bool ((partsR E).2.2)), (121, .bool ((partsR E).2.2)), (120, .bool true), (119, .bool true), (118, .bool true), (117, sB ((partsR E).2.1)), (116, sB ((partsR E).2.1)), (115, .bool true), (114, .bool true), (113, .bool true), (112, .agg (cn .u8 ((partsR E).1))), (111, .agg (cn .u8 ((partsR E).1))), (110, .bool true), (109, .bool true), (108, .bool true), (107, .bool ((textR B).2)), (106, .bool ((textR B).2)), (105, .bool true), (104, .bool true), (103, .bool true), (102, sB ((textR B).1)), (101, sB ((textR B).1)), (100, .bool true), (99, .bool true), (98, .bool true), (97, iN ((bodyR A).2)), (96, iN ((bodyR A).2)), (95, .bool true), (94, .bool true), (93, sB ((bodyR A).1)), (92, sB ((bodyR A).1)), (91, .bool false), (22, .bool ((partsR E).2.2)), (21, sB ((partsR E).2.1)), (20, pT bq), (19, .bool ((partsR E).2.2)), (18, sB ((partsR E).2.1)), (17, pT bp), (16, iN 5), (15, sB []), (14, .bool ((textR B).2)), (13, sB ((textR B).1)), (12, .bool ((textR B).2)), (11, sB ((textR B).1)), (10, iN ((bodyR A).2)), (9, sB ((bodyR A).1)), (8, iN ((bodyR A).2)), (7, sB ((bodyR A).1)), (6, .bool false), (4, pT bi), (3, pT bl), (2, .int .i64 (z : Int))] ((bq, .cells (cn .u8 ((partsR E).1)) 23) :: (bp, .cells (cn .u8 ((partsR E).1)) 24) :: (bi, .cells (cn .u8 D) 24) :: (bl, oC #[sB A, sB B, sB C, sB E] 22) :: O) (opAt Try.f3 15 31) (.bool true) ∧ CallP Try.prog 16 [.int .i64 (z : Int)] [] (iN (onionZ z)) ∧ CallP Try.prog 17 [.int .i64 (z : Int)] [] (iN (onionZ z)) ∧ (onionZ z) = (onionZ z) ∧ CallP Try.prog 18 [.int .i64 (z : Int)] [] (iN (replyZ z)) ∧ CallP Try.prog 19 [.int .i64 (z : Int)] [] (iN (replyZ z)) ∧ (replyZ z) = (replyZ z) ∧ CallP Try.prog 8 [] [] (.bool true) ∧ Kt [(6, .bool true), (20, pT bq), (17, pT bp), (16, iN 5), (15, sB []), (4, pT bi), (3, pT bl)] ((bq, .cells (cn .u8 ((partsR E).1)) 23) :: (bp, .cells (cn .u8 ((partsR E).1)) 24) :: (bi, .cells (cn .u8 D) 24) :: (bl, oC #[sB A, sB B, sB C, sB E] 22) :: O)) (by kernel_rfl) (fun _ => by kernel_rfl) (⟨rfl, rfl, rfl, (eqB_same (eqB_ok (t := 4) (t' := 4) (x := (.tmp 106)) (y := (.tmp 107)) (p := (textR B).2) (q := (textR B).2) (by kernel_rfl) Try.underlying4 rfl rfl)), rfl, ((cn_size _ _).trans (partsR_len E)), rfl, ((cn_size _ _).trans (partsR_len E)), (eqA_ok (t := 24) (t' := 24) (e := 5) (m := 16) (k := .u8) (x := (.tmp 111)) (y := (.tmp 112)) (by kernel_rfl) Try.underlying24 Try.underlying5 (by kernel_rfl) (by kernel_rfl) (by kernel_rfl) rfl rfl (partsR_len E) (partsR_len E) (decide_eq_true rfl)), rfl, (eqB_same (eqB_ok (t := 4) (t' := 4) (x := (.tmp 121)) (y := (.tmp 122)) (p := (partsR E).2.2) (q := (partsR E).2.2) (by kernel_rfl) Try.underlying4 rfl rfl)), (callP_of en_onion (onion_any z) _), (callP_of en_ronion (ronion_any z) _), rfl, (callP_of en_reply (reply_any z) _), (callP_of en_rreply (rreply_any z) _), rfl, (callP_of en_wakes wakes_w _), fun ac20 wd20 FF20 MM20 => then_n ?_⟩))
      refine wp_ret ?_
      repeat first | refine then_ret ?_ | refine inb_ret ?_
      exact (ret_fr FF20 0 Try.results3 rfl ⟨rfl, MM20.belowN H (fun _ hx => List.mem_cons_of_mem _ (List.mem_cons_of_mem _ (List.mem_cons_of_mem _ (List.mem_cons_of_mem _ (hx)))))⟩)
end Go.Proofs.Ytjpfdmkbmpecnaa
