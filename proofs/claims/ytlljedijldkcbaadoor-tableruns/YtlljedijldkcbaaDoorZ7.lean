/- Several texts in one: Package table: tables made; draws. Package table: draws. From a walk to a row: a law that returns true and writes nothing that was there; arrays of bytes that come in. Rows that came in and lie anywhere: elements of one or more cells, only read. A region that draws its order, where new cells are among what is made: the cells are apart. The laws of the table: what they share. The law TableRatio. The law TableRuns. The table of the powers of ten, as the text lays it. Package-level tables of numbers: what the row says that they hold, as a block. -/
import Derived.Test.YtlljedijldkcbaaDoorZ6
import Derived.Test.YtlljedijldkcbaaDoorRows
import Derived.WalkKit
import Derived.Test.YtlljedijldkcbaaDoorZ1
import Derived.Below
import Derived.ProofKit
import Derived.OpenShut
import Derived.ChangeOld
import Derived.OrdersHeld
import Derived.Test.YtlljedijldkcbaaDoorZ3
import Derived.MakeChecks
import Derived.LaidMore
import Derived.LaidHandle
import Derived.Stop.Joined
namespace Go.Proofs.YtlljedijldkcbaaDoor
open Go.RowKit
set_option maxRecDepth 100000 in
theorem kratio_yes (p q : Int) (h : 1 ≤ q ∧ q < p ∧ p ≤ 16) (_p1 : -9223372036854775808 ≤ p) (_p2 : p < 9223372036854775808) (_q1 : -9223372036854775808 ≤ q) (_q2 : q < 9223372036854775808) (w0 : World) :
    Calls Tryd.prog 56 #[.int .i64 p, .int .i64 q] w0 fun e w' => e = .returned (.bool true) ∧ Below w0.heap.size w0 w' := by
  refine enter_fr Tryd.func56 rfl Tryd.ntmps56 (by simp) fun ac (FF : Fr 16 ac [(0, .int .i64 (p : Int)), (1, .int .i64 (q : Int))]) => ?_
  have MM := MemS.start w0
  obtain ⟨h1, h2, h3⟩ := h
  refine wp_seq (rg_seq FF MM [o_] [0, 1, 4] (fun Kt => Kt [(4, .bool false), (0, .int .i64 (p : Int)), (1, .int .i64 (q : Int))] []) (by kernel_rfl) (fun _ => by kernel_rfl) (fun ac1 wd1 FF1 MM1 => then_n ?_))
  refine wp_seq (rg_seq FF1 MM1 [o_, w_ 6, o_, o_, o_, w_ 6, o_, o_, o_, w_ 6, o_, o_] [4] (fun Kt => q ≥ ((1 : Nat) : Int) ∧ q < p ∧ p ≤ ((16 : Nat) : Int) ∧ Kt [(4, .bool true)] []) (by kernel_rfl) (fun _ => by kernel_rfl) (⟨(by omega), (by omega), (by omega), fun ac2 wd2 FF2 MM2 => then_n ?_⟩))
  refine wp_ret ?_
  repeat first | refine then_ret ?_ | refine inb_ret ?_
  exact (ret_fr FF2 0 Tryd.results56 rfl ⟨rfl, MM2.below⟩)
set_option maxRecDepth 100000 in
theorem kratio_no (p q : Int) (h : ¬ (1 ≤ q ∧ q < p ∧ p ≤ 16)) (_p1 : -9223372036854775808 ≤ p) (_p2 : p < 9223372036854775808) (_q1 : -9223372036854775808 ≤ q) (_q2 : q < 9223372036854775808) (w0 : World) :
    Calls Tryd.prog 56 #[.int .i64 p, .int .i64 q] w0 fun e w' => e = .returned (.bool false) ∧ Below w0.heap.size w0 w' := by
  refine enter_fr Tryd.func56 rfl Tryd.ntmps56 (by simp) fun ac (FF : Fr 16 ac [(0, .int .i64 (p : Int)), (1, .int .i64 (q : Int))]) => ?_
  have MM := MemS.start w0
  refine wp_seq (rg_seq FF MM [o_] [0, 1, 4] (fun Kt => Kt [(4, .bool false), (0, .int .i64 (p : Int)), (1, .int .i64 (q : Int))] []) (by kernel_rfl) (fun _ => by kernel_rfl) (fun ac1 wd1 FF1 MM1 => then_n ?_))
  by_cases c0 : 1 ≤ q
  · skip
    by_cases c1 : q < p
    · skip
      by_cases c2 : p ≤ 16
      · skip
        exact (h ⟨by omega, by omega, by omega⟩).elim
      · skip
        refine wp_seq (rg_seq FF1 MM1 [o_, w_ 6, o_, o_, o_, w_ 6, o_, o_, o_, u_ 4 (.bool false), o_, o_] [4] (fun Kt => q ≥ ((1 : Nat) : Int) ∧ q < p ∧ Value.bool (decide (p ≤ ((16 : Nat) : Int))) = .bool false ∧ Kt [(4, .bool false)] []) (by kernel_rfl) (fun _ => by kernel_rfl) (⟨(by omega), (by omega), (dec_f (by omega)), fun ac2 wd2 FF2 MM2 => then_n ?_⟩))
        refine wp_ret ?_
        repeat first | refine then_ret ?_ | refine inb_ret ?_
        exact (ret_fr FF2 0 Tryd.results56 rfl ⟨rfl, MM2.below⟩)
    · skip
      refine wp_seq (rg_seq FF1 MM1 [o_, w_ 6, o_, o_, o_, u_ 4 (.bool false), o_, o_, o_, o_, o_, o_] [4] (fun Kt => q ≥ ((1 : Nat) : Int) ∧ Value.bool (decide (q < p)) = .bool false ∧ Kt [(4, .bool false)] []) (by kernel_rfl) (fun _ => by kernel_rfl) (⟨(by omega), (dec_f (by omega)), fun ac3 wd3 FF3 MM3 => then_n ?_⟩))
      refine wp_ret ?_
      repeat first | refine then_ret ?_ | refine inb_ret ?_
      exact (ret_fr FF3 0 Tryd.results56 rfl ⟨rfl, MM3.below⟩)
  · skip
    refine wp_seq (rg_seq FF1 MM1 [o_, u_ 4 (.bool false), o_, o_, o_, o_, o_, o_, o_, o_, o_, o_] [4] (fun Kt => Value.bool (decide (q ≥ ((1 : Nat) : Int))) = .bool false ∧ Kt [(4, .bool false)] []) (by kernel_rfl) (fun _ => by kernel_rfl) (⟨(dec_f (by omega)), fun ac4 wd4 FF4 MM4 => then_n ?_⟩))
    refine wp_ret ?_
    repeat first | refine then_ret ?_ | refine inb_ret ?_
    exact (ret_fr FF4 0 Tryd.results56 rfl ⟨rfl, MM4.below⟩)
set_option maxRecDepth 100000 in
theorem kspan_yes (p q : Int) (h : 0 ≤ p ∧ p ≤ q ∧ q + p ≤ 8) (_p1 : -9223372036854775808 ≤ p) (_p2 : p < 9223372036854775808) (_q1 : -9223372036854775808 ≤ q) (_q2 : q < 9223372036854775808) (w0 : World) :
    Calls Tryd.prog 57 #[.int .i64 p, .int .i64 q] w0 fun e w' => e = .returned (.bool true) ∧ Below w0.heap.size w0 w' := by
  refine enter_fr Tryd.func57 rfl Tryd.ntmps57 (by simp) fun ac (FF : Fr 18 ac [(0, .int .i64 (p : Int)), (1, .int .i64 (q : Int))]) => ?_
  have MM := MemS.start w0
  obtain ⟨h1, h2, h3⟩ := h
  refine wp_seq (rg_seq FF MM [o_] [0, 1, 4] (fun Kt => Kt [(4, .bool false), (0, .int .i64 (p : Int)), (1, .int .i64 (q : Int))] []) (by kernel_rfl) (fun _ => by kernel_rfl) (fun ac1 wd1 FF1 MM1 => then_n ?_))
  refine wp_seq (rg_seq FF1 MM1 [o_, w_ 6, o_, o_, o_, w_ 6, o_, o_, o_, o_, u_ 4 (.int .i64 (8 - p : Int)), w_ 6, o_, o_] [4] (fun Kt => p ≥ ((0 : Nat) : Int) ∧ q ≥ p ∧ -(9223372036854775808 : Int) ≤ ((8 : Nat) : Int) - p ∧ ((8 : Nat) : Int) - p < (9223372036854775808 : Nat) ∧ Value.int .i64 (((8 : Nat) : Int) - p : Int) = .int .i64 (8 - p : Int) ∧ q ≤ (8 - p) ∧ Kt [(4, .bool true)] []) (by kernel_rfl) (fun _ => by kernel_rfl) (⟨(by omega), (by omega), (by omega), (by omega), (vZ (by omega)), (by omega), fun ac2 wd2 FF2 MM2 => then_n ?_⟩))
  refine wp_ret ?_
  repeat first | refine then_ret ?_ | refine inb_ret ?_
  exact (ret_fr FF2 0 Tryd.results57 rfl ⟨rfl, MM2.below⟩)
set_option maxRecDepth 100000 in
theorem kspan_no (p q : Int) (h : ¬ (0 ≤ p ∧ p ≤ q ∧ q + p ≤ 8)) (_p1 : -9223372036854775808 ≤ p) (_p2 : p < 9223372036854775808) (_q1 : -9223372036854775808 ≤ q) (_q2 : q < 9223372036854775808) (w0 : World) :
    Calls Tryd.prog 57 #[.int .i64 p, .int .i64 q] w0 fun e w' => e = .returned (.bool false) ∧ Below w0.heap.size w0 w' := by
  refine enter_fr Tryd.func57 rfl Tryd.ntmps57 (by simp) fun ac (FF : Fr 18 ac [(0, .int .i64 (p : Int)), (1, .int .i64 (q : Int))]) => ?_
  have MM := MemS.start w0
  refine wp_seq (rg_seq FF MM [o_] [0, 1, 4] (fun Kt => Kt [(4, .bool false), (0, .int .i64 (p : Int)), (1, .int .i64 (q : Int))] []) (by kernel_rfl) (fun _ => by kernel_rfl) (fun ac1 wd1 FF1 MM1 => then_n ?_))
  by_cases c0 : 0 ≤ p
  · skip
    by_cases c1 : p ≤ q
    · skip
      by_cases c2 : q + p ≤ 8
      · skip
        exact (h ⟨by omega, by omega, by omega⟩).elim
      · skip
        refine wp_seq (rg_seq FF1 MM1 [o_, w_ 6, o_, o_, o_, w_ 6, o_, o_, o_, o_, u_ 4 (.int .i64 (8 - p : Int)), u_ 4 (.bool false), o_, o_] [4] (fun Kt => p ≥ ((0 : Nat) : Int) ∧ q ≥ p ∧ -(9223372036854775808 : Int) ≤ ((8 : Nat) : Int) - p ∧ ((8 : Nat) : Int) - p < (9223372036854775808 : Nat) ∧ Value.int .i64 (((8 : Nat) : Int) - p : Int) = .int .i64 (8 - p : Int) ∧ Value.bool (decide (q ≤ (8 - p))) = .bool false ∧ Kt [(4, .bool false)] []) (by kernel_rfl) (fun _ => by kernel_rfl) (⟨(by omega), (by omega), (by omega), (by omega), (vZ (by omega)), (dec_f (by omega)), fun ac2 wd2 FF2 MM2 => then_n ?_⟩))
        refine wp_ret ?_
        repeat first | refine then_ret ?_ | refine inb_ret ?_
        exact (ret_fr FF2 0 Tryd.results57 rfl ⟨rfl, MM2.below⟩)
    · skip
      refine wp_seq (rg_seq FF1 MM1 [o_, w_ 6, o_, o_, o_, u_ 4 (.bool false), o_, o_, o_, o_, o_, o_, o_, o_] [4] (fun Kt => p ≥ ((0 : Nat) : Int) ∧ Value.bool (decide (q ≥ p)) = .bool false ∧ Kt [(4, .bool false)] []) (by kernel_rfl) (fun _ => by kernel_rfl) (⟨(by omega), (dec_f (by omega)), fun ac3 wd3 FF3 MM3 => then_n ?_⟩))
      refine wp_ret ?_
      repeat first | refine then_ret ?_ | refine inb_ret ?_
      exact (ret_fr FF3 0 Tryd.results57 rfl ⟨rfl, MM3.below⟩)
  · skip
    refine wp_seq (rg_seq FF1 MM1 [o_, u_ 4 (.bool false), o_, o_, o_, o_, o_, o_, o_, o_, o_, o_, o_, o_] [4] (fun Kt => Value.bool (decide (p ≥ ((0 : Nat) : Int))) = .bool false ∧ Kt [(4, .bool false)] []) (by kernel_rfl) (fun _ => by kernel_rfl) (⟨(dec_f (by omega)), fun ac4 wd4 FF4 MM4 => then_n ?_⟩))
    refine wp_ret ?_
    repeat first | refine then_ret ?_ | refine inb_ret ?_
    exact (ret_fr FF4 0 Tryd.results57 rfl ⟨rfl, MM4.below⟩)
set_option maxRecDepth 100000 in
theorem knew_no (a b r m : Int) (h : ¬ TOz a b r m) (_a1 : -9223372036854775808 ≤ a) (_a2 : a < 9223372036854775808) (_b1 : -9223372036854775808 ≤ b) (_b2 : b < 9223372036854775808) (_r1 : -9223372036854775808 ≤ r) (_r2 : r < 9223372036854775808) (_m1 : -9223372036854775808 ≤ m) (_m2 : m < 9223372036854775808) (w0 : World) :
    Calls Tryd.prog 36 #[.int .i64 a, .int .i64 b, .int .i64 r, .int .i64 m] w0 fun e w' => e = .returned (.tuple #[.pointer none, iN 1]) ∧ Below w0.heap.size w0 w' := by
  refine enter_fr Tryd.func36 rfl Tryd.ntmps36 (by simp) fun ac (FF : Fr 26 ac [(0, .int .i64 (a : Int)), (1, .int .i64 (b : Int)), (2, .int .i64 (r : Int)), (3, .int .i64 (m : Int))]) => ?_
  have MM := MemS.start w0
  refine wp_seq (rg_seq FF MM [o_, o_] [0, 1, 2, 3, 8, 9] (fun Kt => Kt [(9, iN 0), (8, .pointer none), (0, .int .i64 (a : Int)), (1, .int .i64 (b : Int)), (2, .int .i64 (r : Int)), (3, .int .i64 (m : Int))] []) (by kernel_rfl) (fun _ => by kernel_rfl) (fun ac1 wd1 FF1 MM1 => then_n ?_))
  refine wp_seq ?_
  by_cases c0 : 1 ≤ b ∧ b < a ∧ a ≤ 16
  · skip
    refine wp_seq (rg_seq FF1 MM1 [o_, o_, t_ (.bool true), o_, o_, o_, o_, t_ (.bool false), o_, o_] [9, 8, 0, 1, 2, 3, 19] (fun Kt => CallP Tryd.prog 56 [.int .i64 (a : Int), .int .i64 (b : Int)] [] (.bool true) ∧ CallP Tryd.prog 57 [.int .i64 (r : Int), .int .i64 (m : Int)] [] (.bool false) ∧ Kt [(19, .bool true), (9, iN 0), (8, .pointer none), (0, .int .i64 (a : Int)), (1, .int .i64 (b : Int)), (2, .int .i64 (r : Int)), (3, .int .i64 (m : Int))] []) (by kernel_rfl) (fun _ => by kernel_rfl) (⟨(callP_of en_kratio (kratio_yes a b c0 (by omega) (by omega) (by omega) (by omega)) _), (callP_of en_kspan (kspan_no r m (fun s => h ⟨c0.1, c0.2.1, c0.2.2, s.1, s.2.1, s.2.2⟩) (by omega) (by omega) (by omega) (by omega)) _), fun ac2 wd2 FF2 MM2 => then_n ?_⟩))
    refine wp_cond_true (FF2.ev 0 rfl) ?_
    refine wp_seq (rg_seq FF2 MM2 [o_, o_] [9, 8, 0, 1, 2, 3] (fun Kt => Kt [(9, iN 1), (8, .pointer none), (0, .int .i64 (a : Int)), (1, .int .i64 (b : Int)), (2, .int .i64 (r : Int)), (3, .int .i64 (m : Int))] []) (by kernel_rfl) (fun _ => by kernel_rfl) (fun ac3 wd3 FF3 MM3 => then_n ?_))
    refine wp_ret ?_
    repeat first | refine then_ret ?_ | refine inb_ret ?_
    exact (ret_tup2 FF3 1 0 Tryd.results36 rfl rfl ⟨rfl, MM3.below⟩)
  · skip
    refine wp_seq (rg_seq FF1 MM1 [o_, o_, t_ (.bool false), o_, o_, o_, o_, o_, o_, o_] [9, 8, 0, 1, 2, 3, 19] (fun Kt => CallP Tryd.prog 56 [.int .i64 (a : Int), .int .i64 (b : Int)] [] (.bool false) ∧ Kt [(19, .bool true), (9, iN 0), (8, .pointer none), (0, .int .i64 (a : Int)), (1, .int .i64 (b : Int)), (2, .int .i64 (r : Int)), (3, .int .i64 (m : Int))] []) (by kernel_rfl) (fun _ => by kernel_rfl) (⟨(callP_of en_kratio (kratio_no a b c0 (by omega) (by omega) (by omega) (by omega)) _), fun ac4 wd4 FF4 MM4 => then_n ?_⟩))
    refine wp_cond_true (FF4.ev 0 rfl) ?_
    refine wp_seq (rg_seq FF4 MM4 [o_, o_] [9, 8, 0, 1, 2, 3] (fun Kt => Kt [(9, iN 1), (8, .pointer none), (0, .int .i64 (a : Int)), (1, .int .i64 (b : Int)), (2, .int .i64 (r : Int)), (3, .int .i64 (m : Int))] []) (by kernel_rfl) (fun _ => by kernel_rfl) (fun ac5 wd5 FF5 MM5 => then_n ?_))
    refine wp_ret ?_
    repeat first | refine then_ret ?_ | refine inb_ret ?_
    exact (ret_tup2 FF5 1 0 Tryd.results36 rfl rfl ⟨rfl, MM5.below⟩)
/-- A table that was made. -/
def NewK (a b r m : Nat) (w w' : World) (v : Value) : Prop := ∃ g, v = pT g ∧ Below w.heap.size w w' ∧ w.heap.size ≤ g ∧ w'.heap[g]? = some (KB a b r m)
set_option maxRecDepth 100000 in
theorem knew_yes (a b r m : Nat) (hk : TOk a b r m) (w0 : World) : Calls Tryd.prog 36 #[iN a, iN b, iN r, iN m] w0 fun e w' => ∃ v, e = .returned (.tuple #[v, iN 0]) ∧ NewK a b r m w0 w' v := by
  have ⟨k1, k2, k3, k4, k5⟩ := hk
  refine enter_fr Tryd.func36 rfl Tryd.ntmps36 (by simp) fun ac (FF : Fr 26 ac [(0, iN a), (1, iN b), (2, iN r), (3, iN m)]) => ?_
  have MM := MemS.start w0
  refine wp_seq (rg_seq FF MM [o_, o_] [0, 1, 2, 3, 8, 9] (fun Kt => Kt [(9, iN 0), (8, .pointer none), (0, iN a), (1, iN b), (2, iN r), (3, iN m)] []) (by kernel_rfl) (fun _ => by kernel_rfl) (fun ac1 wd1 FF1 MM1 => then_n ?_))
  refine wp_seq ?_
  refine wp_seq (rg_seq FF1 MM1 [o_, o_, t_ (.bool true), o_, o_, o_, o_, t_ (.bool true), o_, o_] [9, 8, 0, 1, 2, 3, 19] (fun Kt => CallP Tryd.prog 56 [iN a, iN b] [] (.bool true) ∧ CallP Tryd.prog 57 [iN r, iN m] [] (.bool true) ∧ Kt [(19, .bool false), (9, iN 0), (8, .pointer none), (0, iN a), (1, iN b), (2, iN r), (3, iN m)] []) (by kernel_rfl) (fun _ => by kernel_rfl) (⟨(callP_of en_kratio (kratio_yes ((a : Nat) : Int) ((b : Nat) : Int) ⟨by omega, by omega, by omega⟩ (by omega) (by omega) (by omega) (by omega)) _), (callP_of en_kspan (kspan_yes ((r : Nat) : Int) ((m : Nat) : Int) ⟨by omega, by omega, by omega⟩ (by omega) (by omega) (by omega) (by omega)) _), fun ac2 wd2 FF2 MM2 => then_n ?_⟩))
  refine wp_cond_false (FF2.ev 0 rfl) ?_
  refine wp_skip ?_
  refine then_n ?_
  refine wp_seq (rg_seq FF2 MM2 [o_, o_, o_, o_, o_, o_, o_, o_] [9, 8, 0, 1, 2, 3] (fun Kt => ∀ bt, Kt [(9, iN 0), (8, pT bt), (0, iN a), (1, iN b), (2, iN r), (3, iN m)] [(bt, oC #[iN a, iN b, iN r, iN m] 73)]) (by kernel_rfl) (fun _ => by kernel_rfl) (fun bt => fun ac3 wd3 FF3 MM3 => then_n ?_))
  refine wp_ret ?_
  repeat first | refine then_ret ?_ | refine inb_ret ?_
  exact (ret_tup2 FF3 1 0 Tryd.results36 rfl rfl ⟨_, rfl, bt, rfl, MM3.below, MM3.fresh 0 rfl, MM3.get 0 rfl⟩)
theorem en_lawOf : Enters Tryd.prog 9 := fun args w => by simp [go_sem]
theorem en_lawwakes : Enters Tryd.prog 8 := fun args w => by simp [go_sem]
set_option maxRecDepth 100000 in
theorem kof_yes (a b r m : Nat) (hk : TOk a b r m) (w0 : World) : Calls Tryd.prog 9 #[.agg #[iN a, iN b, iN r, iN m]] w0 fun e w' => ∃ v, e = .returned (.tuple #[v, iN 0]) ∧ NewK a b r m w0 w' v := by
  refine enter_fr Tryd.func9 rfl Tryd.ntmps9 (by simp) fun ac (FF : Fr 15 ac [(0, aG #[iN a, iN b, iN r, iN m])]) => ?_
  have MM := MemS.start w0
  refine wp_seq (rg_seq FF MM [o_, o_, o_] [1, 2, 3] (fun Kt => ∀ bq, Kt [(3, iN 0), (2, .pointer none), (1, pT bq)] [(bq, oC #[iN a, iN b, iN r, iN m] 27)]) (by kernel_rfl) (fun _ => by kernel_rfl) (fun bq => fun ac1 wd1 FF1 MM1 => then_n ?_))
  refine wp_seq (wp_region_list ?_)
  refine rg_part 8 FF1 MM1 [o_, l_ 0 (iN a), o_, l_ 0 (iN b), o_, l_ 0 (iN r), o_, l_ 0 (iN m)] [3, 2, 5, 7, 9, 11] (fun Kt => bq = bq ∧ (#[iN a, iN b, iN r, iN m] : Array Value)[0]? = some (iN a) ∧ bq = bq ∧ (#[iN a, iN b, iN r, iN m] : Array Value)[1]? = some (iN b) ∧ bq = bq ∧ (#[iN a, iN b, iN r, iN m] : Array Value)[2]? = some (iN r) ∧ bq = bq ∧ (#[iN a, iN b, iN r, iN m] : Array Value)[3]? = some (iN m) ∧ Kt [(11, iN m), (9, iN r), (7, iN b), (5, iN a), (3, iN 0), (2, .pointer none)] [(bq, oC #[iN a, iN b, iN r, iN m] 27)]) (by kernel_rfl) (fun _ => by kernel_rfl) (⟨rfl, rfl, rfl, rfl, rfl, rfl, rfl, rfl, fun ac2 wd2 FF2 MM2 => ?_⟩)
  refine st_callE [3, 2, 12] FF2 (d := 12) (mk := fun v => .tuple #[v, iN 0]) en_knew rfl rfl (knew_yes a b r m hk _) rfl (by kernel_rfl) (by decide) fun ac4 wd4 lv3 (FF4 : Fr 15 ac4 [(12, .tuple #[lv3, iN 0]), (3, iN 0), (2, .pointer none)]) hr5 => ?_
  obtain ⟨gk, rfl, hB_gk, hf_gk, hb_gk⟩ := hr5
  have MM6 := MM2.keep hB_gk
  have MM7 : MemS (fun k => k < w0.heap.size) w0 wd4 [(gk, oC #[iN a, iN b, iN r, iN m] 73), (bq, oC #[iN a, iN b, iN r, iN m] 27)] [] := MM2.addFresh MM6 hb_gk hf_gk
  refine rg_part 4 FF4 MM7 [o_, o_, o_, o_] [3, 2] (fun Kt => Kt [(3, iN 0), (2, pT gk)] [(gk, oC #[iN a, iN b, iN r, iN m] 73), (bq, oC #[iN a, iN b, iN r, iN m] 27)]) (by kernel_rfl) (fun _ => by kernel_rfl) (fun ac8 wd8 FF8 MM8 => ?_)
  refine wpl_nil (then_n ?_)
  refine wp_ret ?_
  repeat first | refine then_ret ?_ | refine inb_ret ?_
  exact (ret_tup2 FF8 1 0 Tryd.results9 rfl rfl ⟨_, rfl, gk, rfl, MM8.below, MM8.fresh 0 rfl, MM8.get 0 rfl⟩)
end Go.Proofs.YtlljedijldkcbaaDoor
namespace Go.Proofs.YtlljedijldkcbaaDoor
open Go.RowKit
theorem MemS.apartO {S : Nat → Prop} {w0 w : World} {K O : Blks} {R : List Row} {g : Nat} {ob : Obj} (M : MemS S w0 w (K ++ O) R) (i : Nat) (hi : K[i]? = some (g, ob)) : ∀ x ∈ O, x.1 ≠ g := fun x hx => by
  obtain ⟨j, hj⟩ := List.mem_iff_getElem?.1 hx
  have hl : i < K.length := by
    rcases Nat.lt_or_ge i K.length with h | h
    · exact h
    · rw [List.getElem?_eq_none h] at hi; cases hi
  exact M.apart (K.length + j) i x (g, ob) (by rw [List.getElem?_append_right (Nat.le_add_right _ _), Nat.add_sub_cancel_left]; exact hj) (by rw [List.getElem?_append_left hl]; exact hi) (by omega)
/-- What is drawn under all weights together. -/
def uN (a b r m k : Nat) (X : List Nat) : Nat × Nat × Nat := undN (toN a b r m (2 * r + 1)) (bsz (toN a b r m (2 * r + 1))) k X
/-- The number that is drawn. -/
def drN (a b r m k : Nat) (X : List Nat) : Nat := if (uN a b r m k X).2.1 = 0 then aN a b r m (uN a b r m k X).1 else 0
theorem tot_small {a b r m : Nat} (hk : TOk a b r m) : toN a b r m (2 * r + 1) < 1048576 := to_small hk (by have := hk.2.2.2.1; have := hk.2.2.2.2; omega)
theorem tot_b1 {a b r m : Nat} (hk : TOk a b r m) : 1 ≤ bsz (toN a b r m (2 * r + 1)) := bsz_pos (by have := to_pos hk; omega)
theorem tot_b2 {a b r m : Nat} (hk : TOk a b r m) : bsz (toN a b r m (2 * r + 1)) ≤ 20 := bsz_le (tot_small hk)
theorem un_q {a b r m k : Nat} {X : List Nat} (hk : TOk a b r m) : qsz (undN (toN a b r m (2 * r + 1)) (bsz (toN a b r m (2 * r + 1))) k X).1 < 1000000 := qok (Nat.lt_of_lt_of_le (und_lt (bsz_ok _).1 k X) (Nat.le_trans (Nat.pow_le_pow_right (by decide) (tot_b2 hk)) (by decide +kernel)))
set_option maxRecDepth 100000 in
theorem kdraw_O (gk g : Nat) (a b r m : Nat) (hk : TOk a b r m) (X : List Nat) (u : Nat) (hX : ∀ i, X.getD i 0 < 256) (hu : u < 4611686018427000000) (k : Nat) (hk1 : 1 ≤ k) (hk2 : k ≤ 16) (O : Blks) (hK : KO O gk a b r m) (w0 : World) (H : Has w0 ((g, TB X u) :: O)) (hD : Distinct ((g, TB X u) :: O)) :
    Calls Tryd.prog 26 #[pT gk, pT g, iN k] w0 fun e w' => e = .returned (.tuple #[iN (drN a b r m k X), iN ((uN a b r m k X).2.1)]) ∧ Turn g (TB (X.drop (uN a b r m k X).2.2) (u + (uN a b r m k X).2.2)) w0 w' := by
  have ⟨k1, k2, k3, k4, k5⟩ := hk
  refine enter_fr Tryd.func26 rfl Tryd.ntmps26 (by simp) fun ac (FF : Fr 30 ac [(0, pT gk), (1, pT g), (2, iN k)]) => ?_
  have MM : MemS (fun k => k < w0.heap.size ∧ ∀ x ∈ (g, oC #[sB X, iN u] 81) :: O, x.1 ≠ k) w0 w0 ((g, oC #[sB X, iN u] 81) :: O) [] := MemS.startN H hD
  refine wp_seq (rg_seq FF MM [o_, o_] [0, 1, 2, 6, 7] (fun Kt => Kt [(7, iN 0), (6, iN 0), (0, pT gk), (1, pT g), (2, iN k)] ((g, oC #[sB X, iN u] 81) :: O)) (by kernel_rfl) (fun _ => by kernel_rfl) (fun ac1 wd1 FF1 MM1 => then_n ?_))
  refine wp_seq (wp_region_list ?_)
  refine rg_part 2 FF1 MM1 [o_, o_] [7, 6, 0, 2, 13, 14] (fun Kt => Kt [(14, pT gk), (13, pT g), (7, iN 0), (6, iN 0), (0, pT gk), (2, iN k)] ((g, oC #[sB X, iN u] 81) :: O)) (by kernel_rfl) (fun _ => by kernel_rfl) (fun ac2 wd2 FF2 MM2 => ?_)
  refine st_callE [13, 7, 6, 0, 2, 15] FF2 (d := 15) (mk := fun v => .agg #[nv (toN a b r m (2 * r + 1)) v]) en_ktotal rfl rfl (ktotal_any gk a b r m hk _ (hK.at (Has.tl MM2.hasL))) rfl (by kernel_rfl) (by decide) fun ac4 wd4 lv3 (FF4 : Fr 30 ac4 [(15, aG #[nv (toN a b r m (2 * r + 1)) lv3]), (13, pT g), (7, iN 0), (6, iN 0), (0, pT gk), (2, iN k)]) hr5 => ?_
  have hfr6 : ∀ g, (nv (toN a b r m (2 * r + 1)) lv3).ownBlock = some g → w0.heap.size ≤ g := fun g hg => Nat.le_trans MM2.size (hr5.2.2 g hg)
  obtain ⟨O7, MM80, hN9, hs10⟩ := MemS.addNats (K := [(g, oC #[sB X, iN u] 81)]) (O := O) MM2 hr5.1 hr5.2 (Nats.nil O)
  have MM8 : MemS (fun k => k < w0.heap.size ∧ ∀ x ∈ (g, oC #[sB X, iN u] 81) :: O, x.1 ≠ k) w0 wd4 ((g, oC #[sB X, iN u] 81) :: O7) [] := MM80
  have hK_11 := hK.mono hs10
  refine rg_part 1 FF4 MM8 [o_] [15, 13, 7, 6, 0, 16] (fun Kt => Kt [(16, iN k), (15, aG #[nv (toN a b r m (2 * r + 1)) lv3]), (13, pT g), (7, iN 0), (6, iN 0), (0, pT gk)] ((g, oC #[sB X, iN u] 81) :: O7)) (by kernel_rfl) (fun _ => by kernel_rfl) (fun ac12 wd12 FF12 MM12 => ?_)
  refine st_callE [7, 6, 0, 17] FF12 (d := 17) (mk := fun v => .tuple #[.agg #[nv ((undN (toN a b r m (2 * r + 1)) (bsz (toN a b r m (2 * r + 1))) k X).1) v], iN ((undN (toN a b r m (2 * r + 1)) (bsz (toN a b r m (2 * r + 1))) k X).2.1)]) en_tunder rfl rfl (by have h0 := tunder_any g X u hX (by omega) (toN a b r m (2 * r + 1)) lv3 k (tot_b1 hk) (Nat.le_trans (tot_b2 hk) (by decide)) hk1 hk2 wd12 (MM12.get 0 rfl) ((hN9.get 0 rfl).at (Has.tl MM12.hasL)) (natO_ne (hN9.get 0 rfl) (MemS.apartO (K := [(g, oC #[sB X, iN u] 81)]) MM12 0 rfl)); exact h0) rfl (by kernel_rfl) (by decide) fun ac14 wd14 lv13 (FF14 : Fr 30 ac14 [(17, .tuple #[aG #[nv ((undN (toN a b r m (2 * r + 1)) (bsz (toN a b r m (2 * r + 1))) k X).1) lv13], iN ((undN (toN a b r m (2 * r + 1)) (bsz (toN a b r m (2 * r + 1))) k X).2.1)]), (7, iN 0), (6, iN 0), (0, pT gk)]) hr15 => ?_
  obtain ⟨ht9, hn9⟩ := hr15
  have MM16 : MemS (fun k => k < w0.heap.size ∧ ∀ x ∈ (g, oC #[sB X, iN u] 81) :: O, x.1 ≠ k) w0 wd14 ((g, oC #[sB (X.drop (undN (toN a b r m (2 * r + 1)) (bsz (toN a b r m (2 * r + 1))) k X).2.2), iN (u + (undN (toN a b r m (2 * r + 1)) (bsz (toN a b r m (2 * r + 1))) k X).2.2)] 81) :: O7) [] := MM12.turnAt ht9 0 rfl
  obtain ⟨O17, MM180, hN19, hs20⟩ := MemS.addNatsT (K := [(g, oC #[sB (X.drop (undN (toN a b r m (2 * r + 1)) (bsz (toN a b r m (2 * r + 1))) k X).2.2), iN (u + (undN (toN a b r m (2 * r + 1)) (bsz (toN a b r m (2 * r + 1))) k X).2.2)] 81)]) (O := O7) MM12 MM16 rfl hn9 hN9
  have MM18 : MemS (fun k => k < w0.heap.size ∧ ∀ x ∈ (g, oC #[sB X, iN u] 81) :: O, x.1 ≠ k) w0 wd14 ((g, oC #[sB (X.drop (undN (toN a b r m (2 * r + 1)) (bsz (toN a b r m (2 * r + 1))) k X).2.2), iN (u + (undN (toN a b r m (2 * r + 1)) (bsz (toN a b r m (2 * r + 1))) k X).2.2)] 81) :: O17) [] := MM180
  have hK_21 := hK_11.mono hs20
  have hz22 : ∀ x ∈ O, x ∈ O17 := fun x hx => hs20 x (hs10 x hx)
  refine rg_part 6 FF14 MM18 [o_, o_, o_, o_, b_ 0, o_] [7, 6, 0, 8, 9] (fun Kt => ∀ bw, bw = bw ∧ (#[.slice none 0 0] : Array Value).size = 1 ∧ (#[nv ((undN (toN a b r m (2 * r + 1)) (bsz (toN a b r m (2 * r + 1))) k X).1) lv13] : Array Value).size = 1 ∧ (#[nv ((undN (toN a b r m (2 * r + 1)) (bsz (toN a b r m (2 * r + 1))) k X).1) lv13] : Array Value).all (·.oneCell') = true ∧ (0, 0).2 = 0 ∧ Kt [(9, iN ((undN (toN a b r m (2 * r + 1)) (bsz (toN a b r m (2 * r + 1))) k X).2.1)), (8, pT bw), (7, iN 0), (6, iN 0), (0, pT gk)] ((bw, oC #[nv ((undN (toN a b r m (2 * r + 1)) (bsz (toN a b r m (2 * r + 1))) k X).1) lv13] 37) :: (g, oC #[sB (X.drop (undN (toN a b r m (2 * r + 1)) (bsz (toN a b r m (2 * r + 1))) k X).2.2), iN (u + (undN (toN a b r m (2 * r + 1)) (bsz (toN a b r m (2 * r + 1))) k X).2.2)] 81) :: O17)) (by kernel_rfl) (fun _ => by kernel_rfl) (fun bw => ⟨rfl, rfl, rfl, (by kernel_rfl), rfl, fun ac23 wd23 FF23 MM23 => ?_⟩)
  refine wpl_nil (then_n ?_)
  refine wp_seq ?_
  refine wp_seq (rg_seq FF23 MM23 [o_, o_] [9, 8, 7, 6, 0, 21] (fun Kt => Kt [(21, .bool (decide (((undN (toN a b r m (2 * r + 1)) (bsz (toN a b r m (2 * r + 1))) k X).2.1) ≠ 0))), (9, iN ((undN (toN a b r m (2 * r + 1)) (bsz (toN a b r m (2 * r + 1))) k X).2.1)), (8, pT bw), (7, iN 0), (6, iN 0), (0, pT gk)] ((bw, oC #[nv ((undN (toN a b r m (2 * r + 1)) (bsz (toN a b r m (2 * r + 1))) k X).1) lv13] 37) :: (g, oC #[sB (X.drop (undN (toN a b r m (2 * r + 1)) (bsz (toN a b r m (2 * r + 1))) k X).2.2), iN (u + (undN (toN a b r m (2 * r + 1)) (bsz (toN a b r m (2 * r + 1))) k X).2.2)] 81) :: O17)) (by kernel_rfl) (fun _ => by kernel_rfl) (fun ac24 wd24 FF24 MM24 => then_n ?_))
  by_cases hs21 : ((undN (toN a b r m (2 * r + 1)) (bsz (toN a b r m (2 * r + 1))) k X).2.1) ≠ 0
  · refine wp_cond_true ((FF24.ev 0 rfl).trans (dec_t hs21)) ?_
    refine wp_seq (rg_seq FF24 MM24 [o_, o_, o_] [9, 8, 7, 6, 0] (fun Kt => Kt [(7, iN ((undN (toN a b r m (2 * r + 1)) (bsz (toN a b r m (2 * r + 1))) k X).2.1)), (6, iN 0), (9, iN ((undN (toN a b r m (2 * r + 1)) (bsz (toN a b r m (2 * r + 1))) k X).2.1)), (8, pT bw), (0, pT gk)] ((bw, oC #[nv ((undN (toN a b r m (2 * r + 1)) (bsz (toN a b r m (2 * r + 1))) k X).1) lv13] 37) :: (g, oC #[sB (X.drop (undN (toN a b r m (2 * r + 1)) (bsz (toN a b r m (2 * r + 1))) k X).2.2), iN (u + (undN (toN a b r m (2 * r + 1)) (bsz (toN a b r m (2 * r + 1))) k X).2.2)] 81) :: O17)) (by kernel_rfl) (fun _ => by kernel_rfl) (fun ac25 wd25 FF25 MM25 => then_n ?_))
    refine wp_ret ?_
    repeat first | refine then_ret ?_ | refine inb_ret ?_
    exact (ret_tup2 FF25 1 0 Tryd.results26 rfl rfl (by rw [drN, uN, if_neg hs21]; exact ⟨rfl, MM25.turn (Has.tl H) 1 rfl (fun _ hx => List.mem_cons_of_mem _ (List.mem_cons_of_mem _ (hz22 _ hx)))⟩))
  · refine wp_cond_false ((FF24.ev 0 rfl).trans (dec_f hs21)) ?_
    refine wp_skip ?_
    refine then_n ?_
    refine wp_seq (rg_seq FF24 MM24 [o_, b_ 0, u_ 1 (.tuple #[iN (aN a b r m ((undN (toN a b r m (2 * r + 1)) (bsz (toN a b r m (2 * r + 1))) k X).1)), .bool (decide ((undN (toN a b r m (2 * r + 1)) (bsz (toN a b r m (2 * r + 1))) k X).1 < toN a b r m (2 * r + 1)))]), o_, o_, o_, o_, o_] [9, 8, 7, 6, 0, 10] (fun Kt => bw = bw ∧ (#[nv ((undN (toN a b r m (2 * r + 1)) (bsz (toN a b r m (2 * r + 1))) k X).1) lv13] : Array Value).size = 1 ∧ CallP Tryd.prog 21 [pT gk, aG #[nv ((undN (toN a b r m (2 * r + 1)) (bsz (toN a b r m (2 * r + 1))) k X).1) lv13]] ((bw, oC #[nv ((undN (toN a b r m (2 * r + 1)) (bsz (toN a b r m (2 * r + 1))) k X).1) lv13] 37) :: (g, oC #[sB (X.drop (undN (toN a b r m (2 * r + 1)) (bsz (toN a b r m (2 * r + 1))) k X).2.2), iN (u + (undN (toN a b r m (2 * r + 1)) (bsz (toN a b r m (2 * r + 1))) k X).2.2)] 81) :: O17) (.tuple #[iN (aN a b r m ((undN (toN a b r m (2 * r + 1)) (bsz (toN a b r m (2 * r + 1))) k X).1)), .bool (decide ((undN (toN a b r m (2 * r + 1)) (bsz (toN a b r m (2 * r + 1))) k X).1 < toN a b r m (2 * r + 1)))]) ∧ Kt [(10, iN (aN a b r m ((undN (toN a b r m (2 * r + 1)) (bsz (toN a b r m (2 * r + 1))) k X).1))), (9, iN ((undN (toN a b r m (2 * r + 1)) (bsz (toN a b r m (2 * r + 1))) k X).2.1)), (8, pT bw), (7, iN 0), (6, iN 0), (0, pT gk)] ((bw, oC #[nv ((undN (toN a b r m (2 * r + 1)) (bsz (toN a b r m (2 * r + 1))) k X).1) lv13] 37) :: (g, oC #[sB (X.drop (undN (toN a b r m (2 * r + 1)) (bsz (toN a b r m (2 * r + 1))) k X).2.2), iN (u + (undN (toN a b r m (2 * r + 1)) (bsz (toN a b r m (2 * r + 1))) k X).2.2)] 81) :: O17)) (by kernel_rfl) (fun _ => by kernel_rfl) (⟨rfl, rfl, ⟨en_kat, fun w Hw => kat_any gk a b r m hk ((undN (toN a b r m (2 * r + 1)) (bsz (toN a b r m (2 * r + 1))) k X).1) lv13 (un_q hk) w (hK_21.at (Has.tl (Has.tl Hw))) ((hN19.get 0 rfl).at (Has.tl (Has.tl Hw)))⟩, fun ac26 wd26 FF26 MM26 => then_n ?_⟩))
    refine wp_seq (rg_seq FF26 MM26 [o_, o_, o_] [9, 8, 7, 6, 0] (fun Kt => Kt [(7, iN 0), (6, iN (aN a b r m ((undN (toN a b r m (2 * r + 1)) (bsz (toN a b r m (2 * r + 1))) k X).1))), (9, iN ((undN (toN a b r m (2 * r + 1)) (bsz (toN a b r m (2 * r + 1))) k X).2.1)), (8, pT bw), (0, pT gk)] ((bw, oC #[nv ((undN (toN a b r m (2 * r + 1)) (bsz (toN a b r m (2 * r + 1))) k X).1) lv13] 37) :: (g, oC #[sB (X.drop (undN (toN a b r m (2 * r + 1)) (bsz (toN a b r m (2 * r + 1))) k X).2.2), iN (u + (undN (toN a b r m (2 * r + 1)) (bsz (toN a b r m (2 * r + 1))) k X).2.2)] 81) :: O17)) (by kernel_rfl) (fun _ => by kernel_rfl) (fun ac27 wd27 FF27 MM27 => then_n ?_))
    refine wp_ret ?_
    repeat first | refine then_ret ?_ | refine inb_ret ?_
    exact (ret_tup2 FF27 1 0 Tryd.results26 rfl rfl (by have hE : (undN (toN a b r m (2 * r + 1)) (bsz (toN a b r m (2 * r + 1))) k X).2.1 = 0 := Decidable.of_not_not hs21; rw [drN, uN, if_pos hE]; exact ⟨by rw [hE], MM27.turn (Has.tl H) 1 rfl (fun _ hx => List.mem_cons_of_mem _ (List.mem_cons_of_mem _ (hz22 _ hx)))⟩))
theorem kdraw_any (gk g : Nat) (a b r m : Nat) (hk : TOk a b r m) (X : List Nat) (u : Nat) (hX : ∀ i, X.getD i 0 < 256) (hu : u < 4611686018427000000) (k : Nat) (hk1 : 1 ≤ k) (hk2 : k ≤ 16) (w0 : World) (hgk : w0.heap[gk]? = some (KB a b r m)) (hg : w0.heap[g]? = some (TB X u)) :
    Calls Tryd.prog 26 #[pT gk, pT g, iN k] w0 fun e w' => e = .returned (.tuple #[iN (drN a b r m k X), iN ((uN a b r m k X).2.1)]) ∧ Turn g (TB (X.drop (uN a b r m k X).2.2) (u + (uN a b r m k X).2.2)) w0 w' := by
  have hne : gk ≠ g := fun e => by subst e; rw [hg] at hgk; simp at hgk
  refine kdraw_O gk g a b r m hk X u hX hu k hk1 hk2 [(gk, KB a b r m)] (by simp [KO]) w0 (fun i x hx => ?_) ⟨fun y hy => ?_, fun y hy => (nomatch hy), trivial⟩
  · match i with
    | 0 => simp at hx; subst hx; exact hg
    | 1 => simp at hx; subst hx; exact hgk
    | i + 2 => simp at hx
  · simp at hy; subst hy; exact fun e => hne (by first | exact e | exact e.symm)
end Go.Proofs.YtlljedijldkcbaaDoor
namespace Go.Proofs.YtlljedijldkcbaaDoor
open Go.ChangeShapes Go.WideShapes Go.ChangeAt Go.RowKit
theorem Tryd.own : ownKnob Tryd.prog.godebug = Option.none := by kernel_rfl
theorem Tryd.laidOut : laidOutB Tryd.prog = true := by kernel_rfl
section
variable {H : Type} {enc : TypeId × Value → H} {P : Program}
theorem trodAll_below (hl : laidOutB P = true) {W W' : World} (hb : Below W.heap.size W W') : ∀ (ts : List TypeId) (vs : List Value) (ds : List (DataW H)) (ps : List MemPlace), (∀ t ∈ ts, P.readableRec t = true ∧ t < P.types.size) →
    DataW.TrodAll enc P W 0 (fun _ => true) true ts vs ds ps → (∀ x ∈ ps, x.block < W.heap.size) → DataW.TrodAll enc P W' 0 (fun b => decide (b < W.heap.size)) true ts vs ds ps
  | [], [], [], _, _, h, _ => h
  | t :: ts, v :: vs, d :: ds, ps, hr, ⟨p, q, h1, h2, e⟩, hlt => by
    subst e
    obtain ⟨r1, r2⟩ := hr t (by simp)
    exact ⟨p, q, Below.trod hl r1 r2 h1 hb (fun x hx => hlt x (by simp [hx])), trodAll_below hl hb ts vs ds q (fun t ht => hr t (by simp [ht])) h2 (fun x hx => hlt x (by simp [hx])), rfl⟩
  | [], [], _ :: _, _, _, h, _ => h.elim
  | [], _ :: _, _, _, _, h, _ => by cases h
  | _ :: _, [], _, _, _, h, _ => by cases h
  | _ :: _, _ :: _, [], _, _, h, _ => h.elim
/-- What is asked behind a law's walk. -/
theorem post_true {f : Func} {s : ChangeSpec} {W W' : World} {args : Array Value} {ds : List (DataW H)} {before : List MemPlace} {T : TypeId} (hl : laidOutB P = true) (hr : ∀ t ∈ f.params.toList, P.readableRec t = true ∧ t < P.types.size) (hv : s.vars = [])
    (hW : DataW.Whole enc P f.params.toList s.vars false W args.toList ds [] before) (hres : (s.fn H (ds ++ [])).results = [.lit (.bool true)]) (hargs : (s.fn H (ds ++ [])).args = ds) (hvs : (s.fn H (ds ++ [])).vars = [])
    (hT : f.resultTypes = #[T]) (hu : P.underlying T = some .bool) (hb : Below W.heap.size W W') : s.post enc P f false true false false W args (.bool true) W' := by
  have hlt := hW.lt
  have hW' := hW
  obtain ⟨p, q, hA, hV, rfl, _, _⟩ := hW'
  refine ⟨ds, [], p ++ q, [], p, [], hW, ?_, ?_, ?_, hb.frame _, fun h => by cases h⟩
  · rw [hres, hT]
    exact trodAll_cons_mk (shut_bool hu _) rfl
  · rw [hargs]
    exact trodAll_below hl hb _ _ _ _ hr hA (fun x hx => hlt x (by simp [hx]))
  · rw [hvs, hv]
    exact rfl
theorem okWide_arr {w : World} {r : Reach} {base : Nat} {t : TypeId} {v : Value} {n : Nat} {e : TypeId} (ht : P.underlying t = some (.array n e)) (h : Value.okWide P w r base t v) : ∃ cs, v = .agg cs ∧ cs.size = P.cellsOf t := by
  simp only [Value.okWide, ht] at h
  obtain ⟨cs, h1, h2, _⟩ := h
  exact ⟨cs, h1, h2⟩
end
section
variable {H : Type} {enc : TypeId × Value → H} {P : Program}
/-- Bytes that come in within something greater. -/
theorem bytes_in {W : World} {base' : Nat} {spare : Nat → Bool} {held : Bool} {fuel n : Nat} {t e : TypeId} {L : List Value} {x : DataW H × List MemPlace} (hu : P.underlying t = some (.array n e)) (he : P.underlying e = some (.int .u8)) (hc : P.cellsOf e = 1) (hf : DataW.trod enc P W base' spare held fuel t L = some x) :
    ∃ ks : List Nat, Bytes n ks ∧ ∀ (j : Nat) (v : Value), (cn .u8 ks)[j]? = some v → L[j]? = some v := by
  obtain ⟨xs, m, _, _, _, hl, hel⟩ := DataW.trod_array hu hf
  rw [hc] at hel
  have key : ∀ i, i < n → ∃ k : Nat, L[i]? = some (.int .u8 (k : Int)) ∧ k < 256 := fun i hi => by
    have h1 := hel i hi
    have h2 : xs[i]? = some (xs[i]'(by omega)) := by simp
    rw [h2] at h1
    obtain ⟨k, e, _, wf⟩ := DataW.trod_int he h1
    obtain ⟨b0, b1⟩ := bounds_u8 wf
    obtain ⟨k, rfl⟩ := Int.eq_ofNat_of_zero_le b0
    refine ⟨k, ?_, by omega⟩
    rw [Nat.mul_one] at e
    have h3 := congrArg (fun l => l[0]?) e
    simpa using h3
  have hk : ∃ f : Nat → Nat, ∀ i, i < n → L[i]? = some (.int .u8 (f i : Int)) ∧ f i < 256 :=
    ⟨fun i => if h : i < n then (key i h).choose else 0, fun i hi => by simp only [hi, dif_pos]; exact (key i hi).choose_spec⟩
  obtain ⟨f, hf⟩ := hk
  refine ⟨(List.range n).map f, ⟨by simp, fun i => ?_⟩, fun j v hv => ?_⟩
  · rcases Nat.lt_or_ge i n with h | h
    · simp [h]; exact (hf i h).2
    · simp [h]
  · rcases Nat.lt_or_ge j n with h | h
    · rw [(hf j h).1, ← hv, cn_get _ _ _ (by simpa using h)]; simp [h]
    · rw [Array.getElem?_eq_none (by rw [cn_size]; simpa using h)] at hv; cases hv
/-- An array of bytes that comes in alone. -/
theorem open_bytes {W : World} {r : Reach} {base base' : Nat} {spare : Nat → Bool} {held : Bool} {v : Value} {d : DataW H} {p : List MemPlace} {t e : TypeId} {n : Nat} (hu : P.underlying t = some (.array n e)) (he : P.underlying e = some (.int .u8)) (hc : P.cellsOf e = 1) (ht : P.cellsOf t = n)
    (hv : Value.okWide P W r base t v) (h : DataW.Trod enc P W base' spare held t v d p) : ∃ ks : List Nat, Bytes n ks ∧ v = .agg (cn .u8 ks) := by
  obtain ⟨cs, rfl, hsz⟩ := okWide_arr hu hv
  rw [ht] at hsz
  obtain ⟨fuel, hf⟩ := h
  obtain ⟨ks, bk, pk⟩ := bytes_in hu he hc hf
  refine ⟨ks, bk, ?_⟩
  congr 1
  refine Array.ext_getElem? fun i => ?_
  rcases Nat.lt_or_ge i n with hi | hi
  · have h1 := cn_get .u8 ks i (by rw [bk.len]; exact hi)
    have h2 := pk i _ h1
    rw [h1]
    simpa [Value.cells] using h2
  · rw [Array.getElem?_eq_none (by omega), Array.getElem?_eq_none (by rw [cn_size, bk.len]; exact hi)]
end
end Go.Proofs.YtlljedijldkcbaaDoor
namespace Go.Proofs.YtlljedijldkcbaaDoor
open Go.RowKit
section
variable {P : Program} {w w' : World} {l : Slots} {L O : Blks} {o : Oper} {m n : Nat} {V : Nat → Value} {p : Option Addr}
/-- From p on, in w, m cells that hold V. -/
def RowIn (w : World) (p : Option Addr) (m : Nat) (V : Nat → Value) : Prop :=
  m = 0 ∨ ∃ (b off : Nat) (cs : Array Value) (T : TypeId) (fr : Nat × Nat), p = some ⟨b, off, none⟩ ∧ w.heap[b]? = some (.cells cs T fr) ∧ ∀ j, j < m → cs[off + j]? = some (V j)
def RowO (O : Blks) (p : Option Addr) (m : Nat) (V : Nat → Value) : Prop :=
  m = 0 ∨ ∃ (b off : Nat) (cs : Array Value) (T : TypeId) (fr : Nat × Nat), p = some ⟨b, off, none⟩ ∧ (b, Obj.cells cs T fr) ∈ O ∧ ∀ j, j < m → cs[off + j]? = some (V j)
theorem RowO.mono {O' : Blks} (h : RowO O p m V) (hs : ∀ x ∈ O, x ∈ O') : RowO O' p m V := by
  rcases h with h | ⟨b, off, cs, T, fr, h1, h2, h3⟩
  · exact .inl h
  · exact .inr ⟨b, off, cs, T, fr, h1, hs _ h2, h3⟩
theorem RowO.at (h : RowO O p m V) (H : Has w O) : RowIn w p m V := by
  rcases h with h | ⟨b, off, cs, T, fr, h1, h2, h3⟩
  · exact .inl h
  · exact .inr ⟨b, off, cs, T, fr, h1, Has.mem H h2, h3⟩
end
section
variable {P : Program} {ops : Array Oper} {a : Act} {w0 w : World} {Q : Exit → Act → World → Prop} {n b : Nat} {ob : Obj} {l : Slots} {L : Blks} {S : Nat → Prop} {R : List Row} {o : Oper}
end
open Go.ChangeShapes Go.WideShapes Go.ChangeAt
section
variable {P : Program} {H : Type} {enc : TypeId × Value → H} {W : World} {r : Reach} {base base' : Nat} {spare : Nat → Bool} {held : Bool}
end
end Go.Proofs.YtlljedijldkcbaaDoor
namespace Go.Proofs.YtlljedijldkcbaaDoor
open Go.RowKit
section
variable {P : Program} {ops : Array Oper} {rest : List Oper} {a : Act} {w0 w w' : World} {Q : Exit → Act → World → Prop} {n : Nat} {l : Slots} {L O : Blks} {S : Nat → Prop} {R : List Row}
theorem aev_alloc {o : Oper} {T : TypeId} {r : Res} {cs : List Prop} (ho : o.op = .alloc T) (h : aev P l L o_ o = some (r, cs)) : ∃ ob, r = rp ob ∧ cs = [] := by
  unfold aev o_ at h
  simp only [ho] at h
  split at h <;> first | (cases h; done) | skip
  split at h <;> first | (cases h; done) | skip
  simp only [Option.some.injEq, Prod.mk.injEq] at h
  exact ⟨_, h.1.symm, h.2.symm⟩
/-- A new cell, as a letter: its block is the letter's. -/
def cellMk (v : Value) : Value := .pointer (some ⟨gOf (pOf v), 0, none⟩)
def CellC (base : Nat) (w : World) (v : Value) (ob : Obj) : Prop := base ≤ gOf (pOf v) ∧ w.heap[gOf (pOf v)]? = some ob
theorem cellC_st (base : Nat) (ob : Obj) : ∀ (v : Value) (w w' : World), CellC base w v ob → Below w.heap.size w w' → CellC base w' v ob := fun _ _ _ ⟨h1, h2⟩ hb => ⟨h1, (hb.block _ (lt_of_block h2)).trans h2⟩
theorem pOp_alloc {specs : List Spec} {x : Nat → Value} {lo : Slots} {o : Oper} {T : TypeId} {p : Pr} {c : Prop} (ho : o.op = .alloc T) (hp : pOp P ops.toList specs x w lo L o (.inr (cellMk, p)) (some o_) = some c) (hc : c) (hd : ∀ j ∈ depsOf o, ∀ mk p, specs[j]? = some (.inr (mk, p)) → p (x j) w)
    (hlk : ∀ t v, look t (pSlots ops.toList specs x (depsOf o) ++ lo) = some v → a.tmps[t]? = some v) (H : Has w L) :
    Region.wanted o (yielded ops a.tmps) = true ∧ ∀ (next : Act → World → Prop) (Q : Exit → Act → World → Prop), (∀ w', Below w.heap.size w w' → sat (.inr (cellMk, p)) (.pointer (some ⟨w.heap.size, 0, none⟩)) w' → next (a.put o.dst (.pointer (some ⟨w.heap.size, 0, none⟩))) w') → o.wp P a w next Q := by
  have A : Agr a.eval (pSlots ops.toList specs x (depsOf o) ++ lo) := fun x v h => by
    cases x with
    | tmp t => exact eval_tmp (hlk t v h)
    | const u => exact Option.some.inj h
    | func f => exact Option.some.inj h
    | global g => exact Option.some.inj h
  unfold pOp at hp
  split at hp <;> first | (cases hp; done) | skip
  rename_i hw
  refine ⟨wanted_iff hw hlk, fun next Q hK => ?_⟩
  simp only at hp
  split at hp <;> first | (cases hp; done) | skip
  rename_i r cs hr
  obtain ⟨ob, rfl, rfl⟩ := aev_alloc ho hr
  simp only [rp] at hp
  obtain rfl := Option.some.inj hp
  obtain ⟨h1, h2⟩ := allC_iff.1 (pHyp_elim _ hc hd)
  refine aev_ok A H hr (fun c hc => (nomatch hc)) _ _ fun b w' q => ?_
  obtain ⟨hb, hob⟩ := q.fresh ob rfl
  have hB : Below w.heap.size w w' := ⟨q.os, q.tape, q.output, q.size, fun k hk => q.block k hk (fun u hu' => (nomatch hu'))⟩
  subst hb
  obtain ⟨y, h3, h4⟩ := h2 w' hB hob
  exact hK _ hB ⟨y, h3, h4⟩
def FsN (ops : List Oper) (specs : List Spec) (hs : List (Option Hint)) : List Nat → Prop
  | [] => True
  | i :: r => (∃ o T p, ops[i]? = some o ∧ o.op = .alloc T ∧ hs[i]? = some (some o_) ∧ specs[i]? = some (.inr (cellMk, p)) ∧ ∀ x w, p x w → gOf (pOf x) < w.heap.size) ∧ FsN ops specs hs r
theorem FsN.get {os : List Oper} {specs : List Spec} {hs : List (Option Hint)} : ∀ {fs : List Nat}, FsN os specs hs fs → ∀ i ∈ fs, ∃ o T p, os[i]? = some o ∧ o.op = .alloc T ∧ hs[i]? = some (some o_) ∧ specs[i]? = some (.inr (cellMk, p)) ∧ ∀ x w, p x w → gOf (pOf x) < w.heap.size
  | [], _, i, h => by cases h
  | j :: r, ⟨h1, h2⟩, i, h => by
    rcases List.mem_cons.1 h with rfl | h
    · exact h1
    · exact FsN.get h2 i h
theorem pres_get2 {os : List Oper} {specs : List Spec} {x : Nat → Value} {lo : Slots} : ∀ (pre : List Oper) (ss : List Spec) (hs : List (Option Hint)) (cs : List Prop), pres P os specs x w lo L pre ss hs = some cs → (∀ c ∈ cs, c) →
    ∀ (i : Nat) (o : Oper) (s : Spec) (h : Option Hint), pre[i]? = some o → ss[i]? = some s → hs[i]? = some h → ∃ c, pOp P os specs x w lo L o s h = some c ∧ c
  | [], _, _, _, _, _, i, o, s, h, hi, _, _ => by simp at hi
  | _ :: _, [], _, _, h, _, _, _, _, _, _, _, _ => by cases h
  | _ :: _, _ :: _, [], _, h, _, _, _, _, _, _, _, _ => by cases h
  | y :: r, t :: ss, h :: hs, cs, hp, hc, i, o, s, h', ho, hs', hh => by
    simp only [pres] at hp
    split at hp <;> first | (cases hp; done) | skip
    rename_i cs1 c1 h1 h2
    obtain rfl := Option.some.inj hp
    cases i with
    | zero =>
      simp at ho hs' hh
      subst ho hs' hh
      exact ⟨c1, h2, hc c1 (by simp)⟩
    | succ j => exact pres_get2 r ss hs cs1 h1 (fun c hc' => hc c (by simp [hc'])) j o s h' (by simpa using ho) (by simpa using hs') (by simpa using hh)
theorem valsP_get : ∀ (specs : List Spec) (x : Nat → Value) (k i : Nat) (s : Spec), specs[i]? = some s → (valsP specs x k)[i]? = some (sval s (x (k + i)))
  | [], _, _, i, s, h => by simp at h
  | t :: r, x, k, 0, s, h => by simp at h; subst h; rfl
  | t :: r, x, k, i + 1, s, h => by
    have := valsP_get r x (k + 1) i s (by simpa using h)
    rw [show k + (i + 1) = k + 1 + i by omega]
    simpa [valsP] using this
/-- **A region that draws its order, with values that are told by what they hold, and new cells, which are apart.** -/
theorem rg_predF {id : Nat} (fs : List Nat) (F : Fr n a l) (M : MemS S w0 w L R) (specs : List Spec) (hs : List (Option Hint)) (out : List Nat) (C : (Nat → Value) → World → List Prop) (lo : (Nat → Value) → Slots)
    (hm : P.follows .mixedOrders = true) (hG : goodB ops.toList specs.length n = true) (hd : dstsB n ops.toList = true) (hF : FsN ops.toList specs hs fs) (hst : stAll specs)
    (h1 : ∀ x w, pres P ops.toList specs x w (dropS (dstsOf (ops.toList.take specs.length)) l) L (ops.toList.take specs.length) specs hs = some (C x w))
    (h2 : ∀ x, keepS out (pairsOf (ops.toList.take specs.length) (valsP specs x 0) l) = lo x)
    (c : ∀ x w', Below w.heap.size w w' → Has w' L → allC (C x w') True)
    (K : ∀ x a' w', sokAll x w' specs 0 → (∀ i j, i ∈ fs → j ∈ fs → i ≠ j → gOf (pOf (x i)) ≠ gOf (pOf (x j))) → Below w.heap.size w w' → Fr n a' (lo x) → MemS S w0 w' L R → wpList P ops Q (ops.toList.drop specs.length) a' w') : (Code.region id ops true).wp P Q a w := by
  have hdst := good_dst (good_of hG).own
  have B0 : Below w.heap.size w { w with drawn := w.drawn + 1 } := ⟨rfl, rfl, rfl, Nat.le_refl _, fun _ _ => rfl⟩
  have hlen : ∀ {i : Nat} {s : Spec}, specs[i]? = some s → i < specs.length := fun {i s} h => by
    rcases Nat.lt_or_ge i specs.length with h' | h'
    · exact h'
    · rw [List.getElem?_eq_none h'] at h; cases h
  refine region_free specs.length (C := fun w' => Below w.heap.size w w') (specP specs) (fun i => fs.contains i) hm (by rw [F.size]; exact hG) B0 (fun w1 w2 h h' => h.trans (h'.mono h.size)) (fun i v w1 w2 h h' => ?_) (fun i v w hf h => ?_) (fun i o hi ho a' w' hC hk hD => ?_) (fun vs w' hlen' hC hR hN => ?_)
  · unfold specP at *
    cases hs : specs[i]? with
    | none => trivial
    | some s => simp only [hs] at h; exact sat_up (stAll_get _ hst i s hs) h h'
  · obtain ⟨o, T, p, _, _, _, q4, q5⟩ := hF.get i (by simpa using hf)
    unfold specP at h
    simp only [q4] at h
    obtain ⟨x, rfl, hx⟩ := h
    exact ⟨_, rfl, q5 _ _ hx⟩
  · by_cases hfi : fs.contains i = true
    · obtain ⟨o2, T, p, q1, q2, q3, q4, q5⟩ := hF.get i (by simpa using hfi)
      obtain rfl : o2 = o := Option.some.inj (q1.symm.trans (by simpa using ho))
      obtain ⟨x, hx⟩ := dep_letters hD
      have H : Has w' L := fun k y hy => keep hC (M.hasL k y hy)
      have hcs := (allC_iff.1 (c x w' hC H)).1
      have ho' : (ops.toList.take specs.length)[i]? = some o2 := by rw [List.getElem?_take, if_pos hi]; exact q1
      obtain ⟨cc, hp, hcc⟩ := pres_get2 _ _ _ _ (h1 x w') hcs i o2 _ _ ho' q4 q3
      obtain ⟨hw, hr⟩ := pOp_alloc (a := a') q2 hp hcc (fun j hj mk p hsj => by
        cases hjo : (ops[j]?).bind (·.dst) with
        | some d => exact (hx j hj d _ hjo hsj).2
        | none => exact (hdst j (hlen hsj) hjo).elim) (pred_lk F hx hk) H
      refine .inl ⟨hw, hr _ _ fun w'' hB hsat => ⟨_, rfl, hB, ?_, fun _ => rfl⟩⟩
      unfold specP
      simp only [q4]
      exact hsat
    · rcases pred_step hdst F M.hasL hst h1 c hi ho hC hk hD with ⟨hw, hr⟩ | ⟨hw, hu⟩
      · exact .inl ⟨hw, hr _ _ fun v w'' hB hsp => ⟨v, rfl, hB, hsp, fun h => (hfi h).elim⟩⟩
      · exact .inr ⟨hw, hu, by simpa using hfi⟩
  · obtain ⟨x, rfl, hx⟩ := vals_letters specs vs 0 hlen' fun i v s hv hs => by have := hR i v hv; unfold specP at this; simpa only [hs] using this
    have hd1 : dstsB n (ops.toList.take specs.length) = true := by
      unfold dstsB at hd ⊢
      rw [List.all_eq_true] at hd ⊢
      exact fun o ho => hd o (List.mem_of_mem_take ho)
    refine K x _ w' hx (fun i j hi hj hij e => ?_) hC (h2 x ▸ (Fr.putAll (ops.toList.take specs.length) (valsP specs x 0) a l F hd1).keepS out) (M.keep hC)
    obtain ⟨_, _, p, _, _, _, q4, _⟩ := hF.get i hi
    obtain ⟨_, _, p', _, _, _, r4, _⟩ := hF.get j hj
    refine hN i j hij (by simpa using hi) (by simpa using hj) (hlen q4) (hlen r4) ?_
    rw [valsP_get specs x 0 i _ q4, valsP_get specs x 0 j _ r4]
    simp only [sval, cellMk, Nat.zero_add, e]
theorem MemS.addFreshC {Cs : Blks} {g : Nat} {ob : Obj} (M : MemS S w0 w L R) (M' : MemS S w0 w' (Cs ++ L) R) (hb : w'.heap[g]? = some ob) (hg : w.heap.size ≤ g) (hC : ∀ x ∈ Cs, x.1 ≠ g) : MemS S w0 w' ((g, ob) :: (Cs ++ L)) R :=
  M'.addBlk hb (fun x hx => by
    rcases List.mem_append.1 hx with hx | hx
    · exact hC x hx
    · have := lt_of_block (Has.mem M.hasL hx); omega) (fun hs => by have := M.old g hs; have := M.size; omega) (fun r hr g' hg' => by have := (ownsRow_lt (M.rows r hr) hg').2; omega)
theorem ne_nil {g : Nat} : ∀ x ∈ ([] : Blks), x.1 ≠ g := fun _ hx => (nomatch hx)
/-- Cells that no number lies in. -/
def NoNat (Cs : Blks) : Prop := ∀ x ∈ Cs, ∃ cs T fr, x.2 = .cells cs T fr ∧ ∀ d, cs[0]? ≠ some (.int .u64 d)
theorem NoNat.nil : NoNat [] := fun _ hx => (nomatch hx)
theorem NoNat.cons {Cs : Blks} {g : Nat} {cs : Array Value} {T : TypeId} {fr : Nat × Nat} (h : NoNat Cs) (hc : ∀ d, cs[0]? ≠ some (.int .u64 d)) : NoNat ((g, .cells cs T fr) :: Cs) := fun x hx => by
  rcases List.mem_cons.1 hx with rfl | hx
  · exact ⟨cs, T, fr, rfl, hc⟩
  · exact h x hx
theorem nat_cell0 {v : Value} {N g : Nat} (h : NatIn w v N) (hg : v.ownBlock = some g) : ∃ cs T fr d, w.heap[g]? = some (.cells cs T fr) ∧ cs[0]? = some (.int .u64 d) := by
  obtain ⟨p, c, rfl, q1, q2, q3, q4⟩ := h
  have hN0 : N ≠ 0 := fun e => by rw [(q1 e).1] at hg; cases hg
  have h0 : 0 < qsz N := qsz_pos hN0
  rcases q4 with q4 | ⟨b, cs, T', fr, rfl, q5, q6⟩
  · omega
  · have e : b = g := by simpa [Value.ownBlock] using hg
    subst e
    exact ⟨cs, T', fr, _, q5, q6 0 h0⟩
/-- A number that was made in a region, behind cells that were made there, and other numbers. -/
theorem MemS.addNatC {Cs K O1 : Blks} {v : Value} {N : Nat} {ns : List (Value × Nat)} (M : MemS S w0 w (K ++ O) R) (M' : MemS S w0 w' (Cs ++ (K ++ O1)) R) (hC : NoNat Cs) (hn : NatNew w.heap.size w' v N) (hN : Nats O1 ns) : ∃ O', MemS S w0 w' (Cs ++ (K ++ O')) R ∧ Nats O' ((v, N) :: ns) ∧ ∀ x ∈ O1, x ∈ O' := by
  by_cases hb : ∃ g, v.ownBlock = some g ∧ ∃ x ∈ O1, x.1 = g
  · obtain ⟨g, hg, x, hx, rfl⟩ := hb
    have hx' : w'.heap[x.1]? = some x.2 := Has.mem M'.hasL (by simp [hx])
    refine ⟨O1, M', .cons ?_ hN, fun _ h => h⟩
    obtain ⟨p, c, rfl, q1, q2, q3, q4⟩ := hn.1
    refine ⟨p, c, rfl, q1, q2, q3, ?_⟩
    rcases q4 with q4 | ⟨b, cs, T, fr, rfl, q5, q6⟩
    · exact .inl q4
    · have e : b = x.1 := by simpa [Value.ownBlock] using hg
      subst e
      rw [hx'] at q5
      have q5 := Option.some.inj q5
      exact .inr ⟨x.1, cs, T, fr, rfl, by rw [← q5]; exact hx, q6⟩
  · have h := MemS.addNat (K := Cs ++ K) (O := O1) (by rw [List.append_assoc]; exact M') hn.1 (fun g hg x hx => ?_) (fun g hg hs => by have := M.old g hs; have := M.size; have := hn.2 g hg; omega) (fun g hg r hr g' hg' => by have := (ownsRow_lt (M.rows r hr) hg').2; have := hn.2 g hg; omega)
    · obtain ⟨O', h1, h2, h3⟩ := h
      exact ⟨O', by rw [List.append_assoc] at h1; exact h1, .cons h2 (hN.mono h3), h3⟩
    · rcases List.mem_append.1 hx with hx | hx
      · rcases List.mem_append.1 hx with hx | hx
        · rintro rfl
          obtain ⟨cs, T, fr, e, hd⟩ := hC x hx
          have hx' : w'.heap[x.1]? = some x.2 := Has.mem M'.hasL (by simp [hx])
          obtain ⟨cs', T', fr', d, q1, q2⟩ := nat_cell0 hn.1 hg
          rw [hx', e] at q1
          simp only [Option.some.injEq, Obj.cells.injEq] at q1
          exact hd d (by rw [q1.1]; exact q2)
        · have := lt_of_block (Has.mem M.hasL (show x ∈ K ++ O by simp [hx]))
          have := hn.2 g hg
          omega
      · exact fun e => hb ⟨g, hg, x, hx, e⟩
end
end Go.Proofs.YtlljedijldkcbaaDoor
namespace Go.Proofs.YtlljedijldkcbaaDoor
open Go.RowKit
theorem le_bK {a k K : Nat} (h : a < 2 ^ k) (hk : k ≤ 64 * K) : a < 18446744073709551616 ^ K := by
  rw [q_pow2]
  exact Nat.lt_of_lt_of_le h (Nat.pow_le_pow_right (by decide) hk)
theorem le_b {a k : Nat} (h : a < 2 ^ k) (hk : k ≤ 64 * 100) : a < 18446744073709551616 ^ 100 := le_bK h hk
theorem tob {a b r m : Nat} (hk : TOk a b r m) {i : Nat} (h : i ≤ 2 * r + 1) : toN a b r m i < 2 ^ 20 := by
  obtain ⟨k1, k2, k3, k4, k5⟩ := hk
  exact to_small ⟨k1, k2, k3, k4, k5⟩ (by omega)
set_option maxRecDepth 100000 in
theorem wakes_any (O : Blks) (hD : Distinct O) (hT : TabO O) (w0 : World) (H : Has w0 O) :
    Calls Tryd.prog 8 #[] w0 fun e w' => e = .returned (.bool true) ∧ Below w0.heap.size w0 w' := by
  refine enter_fr Tryd.func8 rfl Tryd.ntmps8 (by simp) fun ac (FF : Fr 92 ac []) => ?_
  have MM : MemS (fun k => k < w0.heap.size ∧ ∀ x ∈ O, x.1 ≠ k) w0 w0 O [] := MemS.startN H hD
  have hk21 : TOk 2 1 1 1 := by unfold TOk; decide
  refine wp_seq (rg_seq FF MM [o_] [0] (fun Kt => Kt [(0, .bool false)] O) (by kernel_rfl) (fun _ => by kernel_rfl) (fun ac1 wd1 FF1 MM1 => then_n ?_))
  refine wp_seq (wp_region_list ?_)
  refine st_callE [0, 12] FF1 (d := 12) (mk := fun v => .tuple #[v, iN 0]) en_knew rfl rfl (knew_yes 2 1 1 1 hk21 _) rfl (by kernel_rfl) (by decide) fun ac3 wd3 lv2 (FF3 : Fr 92 ac3 [(12, .tuple #[lv2, iN 0]), (0, .bool false)]) hr4 => ?_
  obtain ⟨gk, rfl, hB_gk, hf_gk, hb_gk⟩ := hr4
  have MM5 := MM1.keep hB_gk
  have MM6 : MemS (fun k => k < w0.heap.size ∧ ∀ x ∈ O, x.1 ≠ k) w0 wd3 ((gk, oC #[iN 2, iN 1, iN 1, iN 1] 73) :: O) [] := MM1.addFresh MM5 hb_gk hf_gk
  refine rg_part 5 FF3 MM6 [o_, o_, o_, o_, o_] [0, 1, 2] (fun Kt => Kt [(2, iN 0), (1, pT gk), (0, .bool false)] ((gk, oC #[iN 2, iN 1, iN 1, iN 1] 73) :: O)) (by kernel_rfl) (fun _ => by kernel_rfl) (fun ac7 wd7 FF7 MM7 => ?_)
  refine wpl_nil (then_n ?_)
  refine wp_seq ?_
  refine wp_seq (rg_seq FF7 MM7 [o_, w_ 3, o_, o_, f_ (.bool false), o_] [1, 0, 20] (fun Kt => ¬ (0 ≠ 0) ∧ RunV Tryd.prog [(18, pT gk), (17, .bool false), (16, .bool false), (15, iN 0), (2, iN 0), (1, pT gk), (0, .bool false)] ((gk, oC #[iN 2, iN 1, iN 1, iN 1] 73) :: O) (opAt Tryd.f8 2 4) (.bool false) ∧ Kt [(20, .bool false), (1, pT gk), (0, .bool false)] ((gk, oC #[iN 2, iN 1, iN 1, iN 1] 73) :: O)) (by kernel_rfl) (fun _ => by kernel_rfl) (⟨(by decide), (ptrSome_ok (t := 28) (t' := 28) (x := (.tmp 18)) (y := (.const (.pointer none))) (by kernel_rfl) rfl rfl Tryd.underlying28), fun ac8 wd8 FF8 MM8 => then_n ?_⟩))
  refine wp_cond_false (FF8.ev 0 rfl) ?_
  refine wp_skip ?_
  refine then_n ?_
  refine wp_seq (wp_region_list ?_)
  refine rg_part 1 FF8 MM8 [o_] [1, 0, 22] (fun Kt => Kt [(22, pT gk), (1, pT gk), (0, .bool false)] ((gk, oC #[iN 2, iN 1, iN 1, iN 1] 73) :: O)) (by kernel_rfl) (fun _ => by kernel_rfl) (fun ac9 wd9 FF9 MM9 => ?_)
  refine st_callE [22, 1, 0, 23] FF9 (d := 23) (mk := fun v => .agg #[nv (2) v]) en_nof rfl rfl (nof_any 2 (by decide) _) rfl (by kernel_rfl) (by decide) fun ac11 wd11 lv10 (FF11 : Fr 92 ac11 [(23, aG #[nv 2 lv10]), (22, pT gk), (1, pT gk), (0, .bool false)]) hr12 => ?_
  obtain ⟨O13, MM140, hN15, hs16⟩ := MemS.addNats (K := [(gk, oC #[iN 2, iN 1, iN 1, iN 1] 73)]) (O := O) MM9 hr12.1 hr12.2 (Nats.nil O)
  have MM14 : MemS (fun k => k < w0.heap.size ∧ ∀ x ∈ O, x.1 ≠ k) w0 wd11 ((gk, oC #[iN 2, iN 1, iN 1, iN 1] 73) :: O13) [] := MM140
  have hT_17 := hT.mono hs16
  refine rg_part 6 FF11 MM14 [u_ 1 (.tuple #[iN 1, .bool true]), o_, o_, o_, o_, o_] [1, 0, 3, 4] (fun Kt => CallP Tryd.prog 21 [pT gk, aG #[nv 2 lv10]] ((gk, oC #[iN 2, iN 1, iN 1, iN 1] 73) :: O13) (.tuple #[iN 1, .bool true]) ∧ Kt [(4, .bool true), (3, iN 1), (1, pT gk), (0, .bool false)] ((gk, oC #[iN 2, iN 1, iN 1, iN 1] 73) :: O13)) (by kernel_rfl) (fun _ => by kernel_rfl) (⟨⟨en_kat, fun w Hw => (by have h0 := kat_any gk 2 1 1 1 hk21 2 lv10 (qok (by decide +kernel)) w (Hw 0 _ rfl) ((hN15.get 0 rfl).at (Has.tl Hw)); rw [show aN 2 1 1 1 2 = 1 by decide +kernel, show decide (2 < toN 2 1 1 1 (2 * 1 + 1)) = true by decide +kernel] at h0; exact h0)⟩, fun ac18 wd18 FF18 MM18 => ?_⟩)
  refine wpl_nil (then_n ?_)
  refine wp_seq (wp_region_list ?_)
  refine rg_part 1 FF18 MM18 [o_] [4, 3, 1, 0, 28] (fun Kt => Kt [(28, pT gk), (4, .bool true), (3, iN 1), (1, pT gk), (0, .bool false)] ((gk, oC #[iN 2, iN 1, iN 1, iN 1] 73) :: O13)) (by kernel_rfl) (fun _ => by kernel_rfl) (fun ac19 wd19 FF19 MM19 => ?_)
  refine st_callE [28, 4, 3, 1, 0, 29] FF19 (d := 29) (mk := fun v => .agg #[nv (4) v]) en_nof rfl rfl (nof_any 4 (by decide) _) rfl (by kernel_rfl) (by decide) fun ac21 wd21 lv20 (FF21 : Fr 92 ac21 [(29, aG #[nv 4 lv20]), (28, pT gk), (4, .bool true), (3, iN 1), (1, pT gk), (0, .bool false)]) hr22 => ?_
  obtain ⟨O23, MM240, hN25, hs26⟩ := MemS.addNats (K := [(gk, oC #[iN 2, iN 1, iN 1, iN 1] 73)]) (O := O13) MM19 hr22.1 hr22.2 hN15
  have MM24 : MemS (fun k => k < w0.heap.size ∧ ∀ x ∈ O, x.1 ≠ k) w0 wd21 ((gk, oC #[iN 2, iN 1, iN 1, iN 1] 73) :: O23) [] := MM240
  have hT_27 := hT_17.mono hs26
  have hz28 : ∀ x ∈ O, x ∈ O23 := fun x hx => hs26 x (hs16 x hx)
  refine rg_part 6 FF21 MM24 [u_ 1 (.tuple #[iN 0, .bool false]), o_, o_, o_, o_, o_] [4, 3, 1, 0, 6] (fun Kt => CallP Tryd.prog 21 [pT gk, aG #[nv 4 lv20]] ((gk, oC #[iN 2, iN 1, iN 1, iN 1] 73) :: O23) (.tuple #[iN 0, .bool false]) ∧ Kt [(6, .bool false), (4, .bool true), (3, iN 1), (1, pT gk), (0, .bool false)] ((gk, oC #[iN 2, iN 1, iN 1, iN 1] 73) :: O23)) (by kernel_rfl) (fun _ => by kernel_rfl) (⟨⟨en_kat, fun w Hw => (by have h0 := kat_any gk 2 1 1 1 hk21 4 lv20 (qok (by decide +kernel)) w (Hw 0 _ rfl) ((hN25.get 0 rfl).at (Has.tl Hw)); rw [show aN 2 1 1 1 4 = 0 by decide +kernel, show decide (4 < toN 2 1 1 1 (2 * 1 + 1)) = false by decide +kernel] at h0; exact h0)⟩, fun ac29 wd29 FF29 MM29 => ?_⟩)
  refine wpl_nil (then_n ?_)
  refine wp_seq (wp_region_list ?_)
  refine rg_part 1 FF29 MM29 [o_] [6, 4, 3, 1, 0, 34] (fun Kt => Kt [(34, pT gk), (6, .bool false), (4, .bool true), (3, iN 1), (1, pT gk), (0, .bool false)] ((gk, oC #[iN 2, iN 1, iN 1, iN 1] 73) :: O23)) (by kernel_rfl) (fun _ => by kernel_rfl) (fun ac30 wd30 FF30 MM30 => ?_)
  refine st_callE [34, 6, 4, 3, 1, 0, 35] FF30 (d := 35) (mk := fun v => v) en_tnew rfl rfl (tnew_any [3] _) rfl (by kernel_rfl) (by decide) fun ac32 wd32 lv31 (FF32 : Fr 92 ac32 [(35, lv31), (34, pT gk), (6, .bool false), (4, .bool true), (3, iN 1), (1, pT gk), (0, .bool false)]) hr33 => ?_
  obtain ⟨gt, rfl, hB_gt, hf_gt, hb_gt⟩ := hr33
  have MM34 := MM30.keep hB_gt
  have MM35 : MemS (fun k => k < w0.heap.size ∧ ∀ x ∈ O, x.1 ≠ k) w0 wd32 ((gt, oC #[sB [3], iN 0] 81) :: (gk, oC #[iN 2, iN 1, iN 1, iN 1] 73) :: O23) [] := MM30.addFresh MM34 hb_gt hf_gt
  refine st_callE [6, 4, 3, 1, 0, 36] FF32 (d := 36) (mk := fun _ => .tuple #[iN 2, iN 0]) (R' := fun _ w9 => Turn gt (TB ([]) (1)) wd32 w9) en_kdraw rfl rfl (by have h0 := kdraw_any gk gt 2 1 1 1 hk21 [3] 0 (lit_lt (by kernel_rfl)) (by decide) 1 (by decide) (by decide) wd32 (MM35.get 1 rfl) (MM35.get 0 rfl); rw [show drN 2 1 1 1 1 [3] = 2 by decide +kernel, show uN 2 1 1 1 1 [3] = (3, 0, 1) by decide +kernel] at h0; exact h0.mono fun _ _ ⟨h1, h2⟩ => ⟨undef, h1, h2⟩) rfl (by kernel_rfl) (by decide) fun ac37 wd37 lv36 (FF37 : Fr 92 ac37 [(36, .tuple #[iN 2, iN 0]), (6, .bool false), (4, .bool true), (3, iN 1), (1, pT gk), (0, .bool false)]) hr38 => ?_
  have MM39 : MemS (fun k => k < w0.heap.size ∧ ∀ x ∈ O, x.1 ≠ k) w0 wd37 ((gt, oC #[sB [], iN 1] 81) :: (gk, oC #[iN 2, iN 1, iN 1, iN 1] 73) :: O23) [] := MM35.turnAt hr38 0 rfl
  refine rg_part 5 FF37 MM39 [o_, o_, o_, o_, o_] [6, 4, 3, 1, 0, 7, 8] (fun Kt => Kt [(8, iN 0), (7, iN 2), (6, .bool false), (4, .bool true), (3, iN 1), (1, pT gk), (0, .bool false)] ((gt, oC #[sB [], iN 1] 81) :: (gk, oC #[iN 2, iN 1, iN 1, iN 1] 73) :: O23)) (by kernel_rfl) (fun _ => by kernel_rfl) (fun ac40 wd40 FF40 MM40 => ?_)
  refine wpl_nil (then_n ?_)
  refine wp_seq (rg_seq FF40 MM40 [t_ (.tuple #[.pointer none, iN 1]), o_, o_, o_, o_, o_] [8, 7, 6, 4, 3, 1, 0, 10] (fun Kt => CallP Tryd.prog 36 [iN 1, iN 1, iN 1, iN 1] [] (.tuple #[.pointer none, iN 1]) ∧ Kt [(10, iN 1), (8, iN 0), (7, iN 2), (6, .bool false), (4, .bool true), (3, iN 1), (1, pT gk), (0, .bool false)] ((gt, oC #[sB [], iN 1] 81) :: (gk, oC #[iN 2, iN 1, iN 1, iN 1] 73) :: O23)) (by kernel_rfl) (fun _ => by kernel_rfl) (⟨(callP_of en_knew (knew_no ((1 : Nat) : Int) ((1 : Nat) : Int) ((1 : Nat) : Int) ((1 : Nat) : Int) (by unfold TOz; decide) (by omega) (by omega) (by omega) (by omega) (by omega) (by omega) (by omega) (by omega)) _), fun ac41 wd41 FF41 MM41 => then_n ?_⟩))
  refine wp_seq (wp_region_list ?_)
  refine rg_part 10 FF41 MM41 [o_, u_ 1 (iN 0), w_ 2, o_, o_, u_ 1 (iN 2), w_ 2, o_, o_, o_] [10, 8, 7, 6, 4, 3, 1, 0, 51, 52] (fun Kt => CallP Tryd.prog 11 [pT gk] ((gt, oC #[sB [], iN 1] 81) :: (gk, oC #[iN 2, iN 1, iN 1, iN 1] 73) :: O23) (iN 0) ∧ 0 = 0 ∧ CallP Tryd.prog 13 [pT gk] ((gt, oC #[sB [], iN 1] 81) :: (gk, oC #[iN 2, iN 1, iN 1, iN 1] 73) :: O23) (iN 2) ∧ 2 = 2 ∧ Kt [(52, pT gk), (51, .bool true), (10, iN 1), (8, iN 0), (7, iN 2), (6, .bool false), (4, .bool true), (3, iN 1), (1, pT gk), (0, .bool false)] ((gt, oC #[sB [], iN 1] 81) :: (gk, oC #[iN 2, iN 1, iN 1, iN 1] 73) :: O23)) (by kernel_rfl) (fun _ => by kernel_rfl) (⟨⟨en_kleast, fun w Hw => kleast_any gk 2 1 1 1 hk21 w (Hw 1 _ rfl)⟩, (by decide), ⟨en_kmost, fun w Hw => kmost_any gk 2 1 1 1 hk21 w (Hw 1 _ rfl)⟩, (by decide), fun ac42 wd42 FF42 MM42 => ?_⟩)
  refine st_callE [51, 10, 8, 7, 6, 4, 3, 1, 0, 53] FF42 (d := 53) (mk := fun v => .agg #[nv (2) v]) en_kweight rfl rfl (by have h0 := (kweight_any gk 2 1 1 1 hk21 ((1 : Nat) : Int) (by omega) (by omega) _ (MM42.get 1 rfl)); rw [show wgZ 2 1 1 1 ((1 : Nat) : Int) = 2 by decide +kernel] at h0; exact h0) rfl (by kernel_rfl) (by decide) fun ac44 wd44 lv43 (FF44 : Fr 92 ac44 [(53, aG #[nv 2 lv43]), (51, .bool true), (10, iN 1), (8, iN 0), (7, iN 2), (6, .bool false), (4, .bool true), (3, iN 1), (1, pT gk), (0, .bool false)]) hr45 => ?_
  have hfr46 : ∀ g, (nv 2 lv43).ownBlock = some g → w0.heap.size ≤ g := fun g hg => Nat.le_trans MM42.size (hr45.2.2 g hg)
  obtain ⟨O47, MM480, hN49, hs50⟩ := MemS.addNats (K := [(gt, oC #[sB [], iN 1] 81), (gk, oC #[iN 2, iN 1, iN 1, iN 1] 73)]) (O := O23) MM42 hr45.1 hr45.2 hN25
  have MM48 : MemS (fun k => k < w0.heap.size ∧ ∀ x ∈ O, x.1 ≠ k) w0 wd44 ((gt, oC #[sB [], iN 1] 81) :: (gk, oC #[iN 2, iN 1, iN 1, iN 1] 73) :: O47) [] := MM480
  have hT_51 := hT_27.mono hs50
  have hz52 : ∀ x ∈ O, x ∈ O47 := fun x hx => hs50 x (hz28 x hx)
  refine rg_part 5 FF44 MM48 [u_ 1 (sB (decN 2)), w_ 2, o_, o_, o_] [10, 8, 7, 6, 4, 3, 1, 0, 57, 58] (fun Kt => CallP Tryd.prog 37 [aG #[nv 2 lv43]] ((gt, oC #[sB [], iN 1] 81) :: (gk, oC #[iN 2, iN 1, iN 1, iN 1] 73) :: O47) (sB (decN 2)) ∧ bs (decN 2) = bs [50] ∧ Kt [(58, pT gk), (57, .bool true), (10, iN 1), (8, iN 0), (7, iN 2), (6, .bool false), (4, .bool true), (3, iN 1), (1, pT gk), (0, .bool false)] ((gt, oC #[sB [], iN 1] 81) :: (gk, oC #[iN 2, iN 1, iN 1, iN 1] 73) :: O47)) (by kernel_rfl) (fun _ => by kernel_rfl) (⟨⟨en_ntext, fun w Hw => ntext_any 2 lv43 (qok (by decide +kernel)) w (hT_51.at (Has.tl (Has.tl Hw))) ((hN49.get 0 rfl).at (Has.tl (Has.tl Hw)))⟩, (congrArg bs ((decN_of (N := 2) (n := 1) (by decide +kernel) (by decide) (by decide +kernel)).trans (by decide +kernel))), fun ac53 wd53 FF53 MM53 => ?_⟩)
  refine st_callE [57, 10, 8, 7, 6, 4, 3, 1, 0, 59] FF53 (d := 59) (mk := fun v => .agg #[nv (toN 2 1 1 1 (2 * 1 + 1)) v]) en_ktotal rfl rfl (ktotal_any gk 2 1 1 1 hk21 _ (MM53.get 1 rfl)) rfl (by kernel_rfl) (by decide) fun ac55 wd55 lv54 (FF55 : Fr 92 ac55 [(59, aG #[nv (toN 2 1 1 1 (2 * 1 + 1)) lv54]), (57, .bool true), (10, iN 1), (8, iN 0), (7, iN 2), (6, .bool false), (4, .bool true), (3, iN 1), (1, pT gk), (0, .bool false)]) hr56 => ?_
  have hfr57 : ∀ g, (nv (toN 2 1 1 1 (2 * 1 + 1)) lv54).ownBlock = some g → w0.heap.size ≤ g := fun g hg => Nat.le_trans MM53.size (hr56.2.2 g hg)
  obtain ⟨O58, MM590, hN60, hs61⟩ := MemS.addNats (K := [(gt, oC #[sB [], iN 1] 81), (gk, oC #[iN 2, iN 1, iN 1, iN 1] 73)]) (O := O47) MM53 hr56.1 hr56.2 hN49
  have MM59 : MemS (fun k => k < w0.heap.size ∧ ∀ x ∈ O, x.1 ≠ k) w0 wd55 ((gt, oC #[sB [], iN 1] 81) :: (gk, oC #[iN 2, iN 1, iN 1, iN 1] 73) :: O58) [] := MM590
  have hT_62 := hT_51.mono hs61
  have hz63 : ∀ x ∈ O, x ∈ O58 := fun x hx => hs61 x (hz52 x hx)
  refine rg_part 5 FF55 MM59 [u_ 1 (sB (decN (toN 2 1 1 1 (2 * 1 + 1)))), w_ 2, o_, o_, o_] [10, 8, 7, 6, 4, 3, 1, 0, 63, 64] (fun Kt => CallP Tryd.prog 37 [aG #[nv (toN 2 1 1 1 (2 * 1 + 1)) lv54]] ((gt, oC #[sB [], iN 1] 81) :: (gk, oC #[iN 2, iN 1, iN 1, iN 1] 73) :: O58) (sB (decN (toN 2 1 1 1 (2 * 1 + 1)))) ∧ bs (decN (toN 2 1 1 1 (2 * 1 + 1))) = bs [52] ∧ Kt [(64, pT gk), (63, .bool true), (10, iN 1), (8, iN 0), (7, iN 2), (6, .bool false), (4, .bool true), (3, iN 1), (1, pT gk), (0, .bool false)] ((gt, oC #[sB [], iN 1] 81) :: (gk, oC #[iN 2, iN 1, iN 1, iN 1] 73) :: O58)) (by kernel_rfl) (fun _ => by kernel_rfl) (⟨⟨en_ntext, fun w Hw => ntext_any (toN 2 1 1 1 (2 * 1 + 1)) lv54 (qok (by decide +kernel)) w (hT_62.at (Has.tl (Has.tl Hw))) ((hN60.get 0 rfl).at (Has.tl (Has.tl Hw)))⟩, (congrArg bs ((congrArg decN (show toN 2 1 1 1 (2 * 1 + 1) = 4 by decide +kernel)).trans ((decN_of (N := 4) (n := 1) (by decide +kernel) (by decide) (by decide +kernel)).trans (by decide +kernel)))), fun ac64 wd64 FF64 MM64 => ?_⟩)
  refine st_callE [63, 10, 8, 7, 6, 4, 3, 1, 0, 65] FF64 (d := 65) (mk := fun v => .agg #[nv (wgZ 2 1 1 1 ((1 - 1 : Nat) : Int)) v]) en_kedge rfl rfl (kedge_any gk 2 1 1 1 hk21 _ (MM64.get 1 rfl)) rfl (by kernel_rfl) (by decide) fun ac66 wd66 lv65 (FF66 : Fr 92 ac66 [(65, aG #[nv (wgZ 2 1 1 1 ((1 - 1 : Nat) : Int)) lv65]), (63, .bool true), (10, iN 1), (8, iN 0), (7, iN 2), (6, .bool false), (4, .bool true), (3, iN 1), (1, pT gk), (0, .bool false)]) hr67 => ?_
  have hfr68 : ∀ g, (nv (wgZ 2 1 1 1 ((1 - 1 : Nat) : Int)) lv65).ownBlock = some g → w0.heap.size ≤ g := fun g hg => Nat.le_trans MM64.size (hr67.2.2 g hg)
  obtain ⟨O69, MM700, hN71, hs72⟩ := MemS.addNats (K := [(gt, oC #[sB [], iN 1] 81), (gk, oC #[iN 2, iN 1, iN 1, iN 1] 73)]) (O := O58) MM64 hr67.1 hr67.2 hN60
  have MM70 : MemS (fun k => k < w0.heap.size ∧ ∀ x ∈ O, x.1 ≠ k) w0 wd66 ((gt, oC #[sB [], iN 1] 81) :: (gk, oC #[iN 2, iN 1, iN 1, iN 1] 73) :: O69) [] := MM700
  have hT_73 := hT_62.mono hs72
  have hz74 : ∀ x ∈ O, x ∈ O69 := fun x hx => hs72 x (hz63 x hx)
  refine rg_part 27 FF66 MM70 [u_ 1 (sB (decN (wgZ 2 1 1 1 ((1 - 1 : Nat) : Int)))), w_ 2, o_, o_, o_, w_ 2, o_, o_, o_, o_, o_, o_, o_, o_, o_, o_, w_ 2, o_, o_, o_, w_ 2, o_, o_, o_, w_ 2, o_, o_] [1, 0] (fun Kt => CallP Tryd.prog 37 [aG #[nv (wgZ 2 1 1 1 ((1 - 1 : Nat) : Int)) lv65]] ((gt, oC #[sB [], iN 1] 81) :: (gk, oC #[iN 2, iN 1, iN 1, iN 1] 73) :: O69) (sB (decN (wgZ 2 1 1 1 ((1 - 1 : Nat) : Int)))) ∧ bs (decN (wgZ 2 1 1 1 ((1 - 1 : Nat) : Int))) = bs [49] ∧ 1 = 1 ∧ 2 = 2 ∧ 0 = 0 ∧ 1 = 1 ∧ Kt [(0, .bool true), (1, pT gk)] ((gt, oC #[sB [], iN 1] 81) :: (gk, oC #[iN 2, iN 1, iN 1, iN 1] 73) :: O69)) (by kernel_rfl) (fun _ => by kernel_rfl) (⟨⟨en_ntext, fun w Hw => ntext_any (wgZ 2 1 1 1 ((1 - 1 : Nat) : Int)) lv65 (qok (by decide +kernel)) w (hT_73.at (Has.tl (Has.tl Hw))) ((hN71.get 0 rfl).at (Has.tl (Has.tl Hw)))⟩, (congrArg bs ((congrArg decN (show wgZ 2 1 1 1 ((1 - 1 : Nat) : Int) = 1 by decide +kernel)).trans ((decN_of (N := 1) (n := 1) (by decide +kernel) (by decide) (by decide +kernel)).trans (by decide +kernel)))), (by decide), (by decide), (by decide), (by decide), fun ac75 wd75 FF75 MM75 => ?_⟩)
  refine wpl_nil (then_n ?_)
  refine wp_ret ?_
  repeat first | refine then_ret ?_ | refine inb_ret ?_
  exact (ret_fr FF75 0 Tryd.results8 rfl ⟨rfl, MM75.belowN H (fun _ hx => List.mem_cons_of_mem _ (List.mem_cons_of_mem _ (hz74 _ hx)))⟩)
theorem wakes_w (w : World) (hT : TabIn w) : Calls Tryd.prog 8 #[] w fun e w' => e = .returned (.bool true) ∧ Below w.heap.size w w' := by
  obtain ⟨O, g1, g2, g3⟩ := tab_O hT
  exact wakes_any O (distinct_of g2) g3 w g1
end Go.Proofs.YtlljedijldkcbaaDoor
namespace Go.Proofs.YtlljedijldkcbaaDoor
open Go.RowKit
theorem en_lFew : Enters Tryd.prog 29 := fun args w => by simp [go_sem]
set_option maxRecDepth 100000 in
theorem few_any (X : List Nat) (hl : X.length = 4) (hX : ∀ i, X.getD i 0 < 256) (a b r m : Nat) (hb : 1 + X.getD 0 0 % 15 = b) (hr : X.getD 1 0 % 5 = r) (ha : b + 1 + X.getD 2 0 % (16 - b) = a) (hm : r + X.getD 3 0 % (9 - 2 * r) = m) (w0 : World) :
    Calls Tryd.prog 29 #[.agg (cn .u8 X)] w0 fun e w' => e = .returned (.agg #[iN a, iN b, iN r, iN m]) ∧ Below w0.heap.size w0 w' := by
  refine enter_fr Tryd.func29 rfl Tryd.ntmps29 (by simp) fun ac (FF : Fr 35 ac [(0, .agg (cn .u8 X))]) => ?_
  have MM := MemS.start w0
  have hX2 := hX 2
  have hX3 := hX 3
  have ha2 := Nat.mod_lt (X.getD 2 0) (show 0 < 16 - b by omega)
  have hm2 := Nat.mod_lt (X.getD 3 0) (show 0 < 9 - 2 * r by omega)
  refine wp_seq (rg_seq FF MM [o_, o_] [1, 2] (fun Kt => ∀ bn, ∀ bq, Kt [(2, pT bq), (1, pT bn)] [(bq, oC #[iN 0, iN 0, iN 0, iN 0] 27), (bn, .cells (cn .u8 X) 58)]) (by kernel_rfl) (fun _ => by kernel_rfl) (fun bn => fun bq => fun ac1 wd1 FF1 MM1 => then_n ?_))
  refine wp_seq (rg_seq FF1 MM1 [w_ 1, l_ 1 (iB (X.getD 0 0)), w_ 1, o_, t_ (iN b), o_] [2, 1, 3] (fun Kt => 0 < 4 ∧ bn = bn ∧ (cn .u8 X)[0]? = some (iB (X.getD 0 0)) ∧ (X.getD 0 0) < 9223372036854775808 ∧ 15 ≠ 0 ∧ 1 + ((X.getD 0 0) % 15) < 9223372036854775808 ∧ iN (1 + ((X.getD 0 0) % 15)) = iN b ∧ Kt [(3, iN b), (2, pT bq), (1, pT bn)] [(bq, oC #[iN 0, iN 0, iN 0, iN 0] 27), (bn, .cells (cn .u8 X) 58)]) (by kernel_rfl) (fun _ => by kernel_rfl) (⟨(by decide), rfl, (cn_get _ _ _ (by rw [hl]; decide)), (by have := hX 0; omega), (by decide), (by have := hX 0; omega), (vI hb), fun ac2 wd2 FF2 MM2 => then_n ?_⟩))
  refine wp_seq (rg_seq FF2 MM2 [w_ 1, l_ 1 (iB (X.getD 1 0)), w_ 1, t_ (iN r), o_] [3, 2, 1, 4] (fun Kt => 1 < 4 ∧ bn = bn ∧ (cn .u8 X)[1]? = some (iB (X.getD 1 0)) ∧ (X.getD 1 0) < 9223372036854775808 ∧ 5 ≠ 0 ∧ iN ((X.getD 1 0) % 5) = iN r ∧ Kt [(4, iN r), (3, iN b), (2, pT bq), (1, pT bn)] [(bq, oC #[iN 0, iN 0, iN 0, iN 0] 27), (bn, .cells (cn .u8 X) 58)]) (by kernel_rfl) (fun _ => by kernel_rfl) (⟨(by decide), rfl, (cn_get _ _ _ (by rw [hl]; decide)), (by have := hX 1; omega), (by decide), (vI hr), fun ac3 wd3 FF3 MM3 => then_n ?_⟩))
  refine wp_seq (rg_draw FF3 MM3 [.inl (iN b), .inl (iN (b + 1)), .inl (.pointer (some ⟨bn, 2, none⟩)), .inl (iB (X.getD 2 0)), .inl (iN (X.getD 2 0)), .inl (iN b), .inl (iN (16 - b)), .inl (iN ((X.getD 2 0) % (16 - b))), .inl (iN a), .inl (iN b), .inl (iN r), .inl (iN r), .inl (.pointer (some ⟨bn, 3, none⟩)), .inl (iB (X.getD 3 0)), .inl (iN (X.getD 3 0)), .inl (iN r), .inl (iN (2 * r)), .inl (iN (9 - (2 * r))), .inl (iN ((X.getD 3 0) % (9 - (2 * r)))), .inl (iN m), .inl (aG #[iN a, iN b, iN r, iN m])] [] [o_, o_, w_ 1, l_ 1 (iB (X.getD 2 0)), w_ 1, o_, o_, o_, t_ (iN a), o_, o_, o_, w_ 1, l_ 1 (iB (X.getD 3 0)), w_ 1, o_, o_, o_, o_, t_ (iN m), o_] [b_ 0] [2, 1] (fun nb => [b + 1 < 9223372036854775808, 2 < 4, bn = bn, (cn .u8 X)[2]? = some (iB (X.getD 2 0)), (X.getD 2 0) < 9223372036854775808, b ≤ 16, 16 - b < 9223372036854775808, (16 - b) ≠ 0, (b + 1) + ((X.getD 2 0) % (16 - b)) < 9223372036854775808, iN ((b + 1) + ((X.getD 2 0) % (16 - b))) = iN a, 3 < 4, bn = bn, (cn .u8 X)[3]? = some (iB (X.getD 3 0)), (X.getD 3 0) < 9223372036854775808, 2 * r < 9223372036854775808, (2 * r) ≤ 9, 9 - (2 * r) < 9223372036854775808, (9 - (2 * r)) ≠ 0, r + ((X.getD 3 0) % (9 - (2 * r))) < 9223372036854775808, iN (r + ((X.getD 3 0) % (9 - (2 * r)))) = iN m]) (fun nb Kt => bq = bq ∧ (#[iN 0, iN 0, iN 0, iN 0] : Array Value).size = 4 ∧ (#[iN a, iN b, iN r, iN m] : Array Value).size = 4 ∧ (#[iN a, iN b, iN r, iN m] : Array Value).all (·.oneCell') = true ∧ (0, 0).2 = 0 ∧ Kt [(2, pT bq), (1, pT bn)] [(bq, oC #[iN a, iN b, iN r, iN m] 27), (bn, .cells (cn .u8 X) 58)]) (by kernel_rfl) (by kernel_rfl) (by kernel_rfl) (fun _ => by kernel_rfl) (fun _ _ => by kernel_rfl) trivial (fun nb => ⟨(by omega), (by decide), rfl, (cn_get _ _ _ (by rw [hl]; decide)), (by have := hX 2; omega), (by omega), (by omega), (by have := hX 2; omega), (by have := hX 2; omega), (vI ha), (by decide), rfl, (cn_get _ _ _ (by rw [hl]; decide)), (by have := hX 3; omega), (by omega), (by omega), (by omega), (by have := hX 3; omega), (by have := hX 3; omega), (vI hm), trivial⟩) (fun nb => ⟨rfl, rfl, rfl, (by kernel_rfl), rfl, fun ac4 wd4 FF4 MM4 => then_n ?_⟩))
  refine wp_ret ?_
  repeat first | refine then_ret ?_ | refine inb_ret ?_
  exact (retc FF4 MM4 (k := 4) (i := 0) (j := 0) Tryd.results29 rfl rfl Tryd.underlying27 rfl (by kernel_rfl) rfl ⟨rfl, MM4.below⟩)
theorem few_ex (X : List Nat) (hl : X.length = 4) (hX : ∀ i, X.getD i 0 < 256) : ∃ a b r m : Nat, TOk a b r m ∧ ∀ w, Calls Tryd.prog 29 #[.agg (cn .u8 X)] w fun e w' => e = .returned (.agg #[iN a, iN b, iN r, iN m]) ∧ Below w.heap.size w w' := by
  obtain ⟨b, hb⟩ : ∃ b, 1 + X.getD 0 0 % 15 = b := ⟨_, rfl⟩
  obtain ⟨r, hr⟩ : ∃ r, X.getD 1 0 % 5 = r := ⟨_, rfl⟩
  obtain ⟨a, ha⟩ : ∃ a, b + 1 + X.getD 2 0 % (16 - b) = a := ⟨_, rfl⟩
  obtain ⟨m, hm⟩ : ∃ m, r + X.getD 3 0 % (9 - 2 * r) = m := ⟨_, rfl⟩
  have ha2 := Nat.mod_lt (X.getD 2 0) (show 0 < 16 - b by omega)
  have hm2 := Nat.mod_lt (X.getD 3 0) (show 0 < 9 - 2 * r by omega)
  exact ⟨a, b, r, m, ⟨by omega, by omega, by omega, by omega, by omega⟩, few_any X hl hX a b r m hb hr ha hm⟩
end Go.Proofs.YtlljedijldkcbaaDoor
namespace Go.Proofs.YtlljedijldkcbaaDoor
open Go.RowKit
set_option maxRecDepth 100000 in
theorem runs_any (O : Blks) (hD : Distinct O) (hT : TabO O) (X : List Nat) (hl : X.length = 4) (hX : ∀ i, X.getD i 0 < 256)  (w0 : World) (H : Has w0 O) :
    Calls Tryd.prog 4 #[.agg (cn .u8 X)] w0 fun e w' => e = .returned (.bool true) ∧ Below w0.heap.size w0 w' := by
  refine enter_fr Tryd.func4 rfl Tryd.ntmps4 (by simp) fun ac (FF : Fr 109 ac [(0, .agg (cn .u8 X))]) => ?_
  have MM : MemS (fun k => k < w0.heap.size ∧ ∀ x ∈ O, x.1 ≠ k) w0 w0 O [] := MemS.startN H hD
  obtain ⟨a, b, r, m, hk, hF⟩ := few_ex X hl hX
  have ⟨k1, k2, k3, k4, k5⟩ := hk
  refine wp_seq (rg_seq FF MM [o_, o_] [1, 2] (fun Kt => ∀ bn, Kt [(2, .bool false), (1, pT bn)] ((bn, .cells (cn .u8 X) 58) :: O)) (by kernel_rfl) (fun _ => by kernel_rfl) (fun bn => fun ac1 wd1 FF1 MM1 => then_n ?_))
  refine wp_seq (wp_region_list ?_)
  refine rg_part 2 FF1 MM1 [b_ 0, t_ (aG #[iN a, iN b, iN r, iN m])] [2, 19] (fun Kt => bn = bn ∧ (cn .u8 X).size = 4 ∧ CallP Tryd.prog 29 [.agg (cn .u8 X)] [] (aG #[iN a, iN b, iN r, iN m]) ∧ Kt [(19, aG #[iN a, iN b, iN r, iN m]), (2, .bool false)] ((bn, .cells (cn .u8 X) 58) :: O)) (by kernel_rfl) (fun _ => by kernel_rfl) (⟨rfl, ((cn_size _ _).trans hl), (callP_of en_lFew hF _), fun ac2 wd2 FF2 MM2 => ?_⟩)
  refine st_callE [2, 20] FF2 (d := 20) (mk := fun v => .tuple #[v, iN 0]) en_lawOf rfl rfl (kof_yes a b r m hk _) rfl (by kernel_rfl) (by decide) fun ac4 wd4 lv3 (FF4 : Fr 109 ac4 [(20, .tuple #[lv3, iN 0]), (2, .bool false)]) hr5 => ?_
  obtain ⟨gk, rfl, hB_gk, hf_gk, hb_gk⟩ := hr5
  have MM6 := MM2.keep hB_gk
  have MM7 : MemS (fun k => k < w0.heap.size ∧ ∀ x ∈ O, x.1 ≠ k) w0 wd4 ((gk, oC #[iN a, iN b, iN r, iN m] 73) :: (bn, .cells (cn .u8 X) 58) :: O) [] := MM2.addFresh MM6 hb_gk hf_gk
  refine rg_part 5 FF4 MM7 [o_, o_, o_, o_, o_] [2, 3, 4] (fun Kt => Kt [(4, iN 0), (3, pT gk), (2, .bool false)] ((gk, oC #[iN a, iN b, iN r, iN m] 73) :: (bn, .cells (cn .u8 X) 58) :: O)) (by kernel_rfl) (fun _ => by kernel_rfl) (fun ac8 wd8 FF8 MM8 => ?_)
  refine wpl_nil (then_n ?_)
  refine wp_seq ?_
  refine wp_seq (rg_seq FF8 MM8 [o_, w_ 3, o_, o_, f_ (.bool false), o_] [3, 2, 28] (fun Kt => ¬ (0 ≠ 0) ∧ RunV Tryd.prog [(26, pT gk), (25, .bool false), (24, .bool false), (23, iN 0), (4, iN 0), (3, pT gk), (2, .bool false)] ((gk, oC #[iN a, iN b, iN r, iN m] 73) :: (bn, .cells (cn .u8 X) 58) :: O) (opAt Tryd.f4 2 4) (.bool false) ∧ Kt [(28, .bool false), (3, pT gk), (2, .bool false)] ((gk, oC #[iN a, iN b, iN r, iN m] 73) :: (bn, .cells (cn .u8 X) 58) :: O)) (by kernel_rfl) (fun _ => by kernel_rfl) (⟨(by decide), (ptrSome_ok (t := 28) (t' := 28) (x := (.tmp 26)) (y := (.const (.pointer none))) (by kernel_rfl) rfl rfl Tryd.underlying28), fun ac9 wd9 FF9 MM9 => then_n ?_⟩))
  refine wp_cond_false (FF9.ev 0 rfl) ?_
  refine wp_skip ?_
  refine then_n ?_
  refine wp_seq (wp_region_list ?_)
  refine st_callE [3, 2, 29] FF9 (d := 29) (mk := fun v => .agg #[nv (1) v]) en_nof rfl rfl (nof_any 1 (by decide) _) rfl (by kernel_rfl) (by decide) fun ac11 wd11 lv10 (FF11 : Fr 109 ac11 [(29, aG #[nv 1 lv10]), (3, pT gk), (2, .bool false)]) hr12 => ?_
  obtain ⟨O13, MM140, hN15, hs16⟩ := MemS.addNats (K := [(gk, oC #[iN a, iN b, iN r, iN m] 73), (bn, .cells (cn .u8 X) 58)]) (O := O) MM9 hr12.1 hr12.2 (Nats.nil O)
  have MM14 : MemS (fun k => k < w0.heap.size ∧ ∀ x ∈ O, x.1 ≠ k) w0 wd11 ((gk, oC #[iN a, iN b, iN r, iN m] 73) :: (bn, .cells (cn .u8 X) 58) :: O13) [] := MM140
  have hT_17 := hT.mono hs16
  refine rg_part 2 FF11 MM14 [o_, b_ 0] [3, 2, 5] (fun Kt => ∀ b1, b1 = b1 ∧ (#[.slice none 0 0] : Array Value).size = 1 ∧ (#[nv 1 lv10] : Array Value).size = 1 ∧ (#[nv 1 lv10] : Array Value).all (·.oneCell') = true ∧ (0, 0).2 = 0 ∧ Kt [(5, pT b1), (3, pT gk), (2, .bool false)] ((b1, oC #[nv 1 lv10] 37) :: (gk, oC #[iN a, iN b, iN r, iN m] 73) :: (bn, .cells (cn .u8 X) 58) :: O13)) (by kernel_rfl) (fun _ => by kernel_rfl) (fun b1 => ⟨rfl, rfl, rfl, (by kernel_rfl), rfl, fun ac18 wd18 FF18 MM18 => ?_⟩)
  refine wpl_nil (then_n ?_)
  refine wp_seq (wp_region_list ?_)
  refine st_callE [5, 3, 2, 30] FF18 (d := 30) (mk := fun v => .agg #[nv (0) v]) en_nof rfl rfl (nof_any 0 (by decide) _) rfl (by kernel_rfl) (by decide) fun ac20 wd20 lv19 (FF20 : Fr 109 ac20 [(30, aG #[nv 0 lv19]), (5, pT b1), (3, pT gk), (2, .bool false)]) hr21 => ?_
  obtain ⟨O22, MM230, hN24, hs25⟩ := MemS.addNats (K := [(b1, oC #[nv 1 lv10] 37), (gk, oC #[iN a, iN b, iN r, iN m] 73), (bn, .cells (cn .u8 X) 58)]) (O := O13) MM18 hr21.1 hr21.2 hN15
  have MM23 : MemS (fun k => k < w0.heap.size ∧ ∀ x ∈ O, x.1 ≠ k) w0 wd20 ((b1, oC #[nv 1 lv10] 37) :: (gk, oC #[iN a, iN b, iN r, iN m] 73) :: (bn, .cells (cn .u8 X) 58) :: O22) [] := MM230
  have hT_26 := hT_17.mono hs25
  have hz27 : ∀ x ∈ O, x ∈ O22 := fun x hx => hs25 x (hs16 x hx)
  refine rg_part 2 FF20 MM23 [o_, b_ 0] [5, 3, 2, 6] (fun Kt => ∀ b0, b0 = b0 ∧ (#[.slice none 0 0] : Array Value).size = 1 ∧ (#[nv 0 lv19] : Array Value).size = 1 ∧ (#[nv 0 lv19] : Array Value).all (·.oneCell') = true ∧ (0, 0).2 = 0 ∧ Kt [(6, pT b0), (5, pT b1), (3, pT gk), (2, .bool false)] ((b0, oC #[nv 0 lv19] 37) :: (b1, oC #[nv 1 lv10] 37) :: (gk, oC #[iN a, iN b, iN r, iN m] 73) :: (bn, .cells (cn .u8 X) 58) :: O22)) (by kernel_rfl) (fun _ => by kernel_rfl) (fun b0 => ⟨rfl, rfl, rfl, (by kernel_rfl), rfl, fun ac28 wd28 FF28 MM28 => ?_⟩)
  refine wpl_nil (then_n ?_)
  refine wp_seq ?_
  refine wp_seq (rg_seq FF28 MM28 [o_, u_ 1 (iN (m - r)), o_] [6, 5, 3, 2, 7] (fun Kt => CallP Tryd.prog 11 [pT gk] ((b0, oC #[nv 0 lv19] 37) :: (b1, oC #[nv 1 lv10] 37) :: (gk, oC #[iN a, iN b, iN r, iN m] 73) :: (bn, .cells (cn .u8 X) 58) :: O22) (iN (m - r)) ∧ Kt [(7, iN (m - r)), (6, pT b0), (5, pT b1), (3, pT gk), (2, .bool false)] ((b0, oC #[nv 0 lv19] 37) :: (b1, oC #[nv 1 lv10] 37) :: (gk, oC #[iN a, iN b, iN r, iN m] 73) :: (bn, .cells (cn .u8 X) 58) :: O22)) (by kernel_rfl) (fun _ => by kernel_rfl) (⟨⟨en_kleast, fun w Hw => kleast_any gk a b r m hk w (Hw 2 _ rfl)⟩, fun ac29 wd29 FF29 MM29 => then_n ?_⟩))
  refine wp_for2 (fun a' w' => ∃ O1 : Blks, ∃ i : Nat, ∃ v : Value, (∀ x ∈ O, x ∈ O1) ∧ Nats O1 [((nv (toN a b r m i) v), toN a b r m i), ((nv 1 lv10), 1)] ∧ i ≤ 2 * r + 1 ∧ Fr 109 a' [(7, iN (m - r + i)), (6, pT b0), (5, pT b1), (3, pT gk)] ∧ MemS (fun k => k < w0.heap.size ∧ ∀ x ∈ O, x.1 ≠ k) w0 w' ((b0, oC #[nv (toN a b r m i) v] 37) :: (b1, oC #[nv 1 lv10] 37) :: (gk, oC #[iN a, iN b, iN r, iN m] 73) :: (bn, .cells (cn .u8 X) 58) :: O1) []) (fun a' _ => (m + r + 1 - cnt 7 a').toNat) ⟨O22, 0, lv19, hz27, (.cons (hN24.get 0 rfl) (.cons (hN24.get 1 rfl) (.nil _))), Nat.zero_le _, FF29.pick [0, 1, 2, 3], MM29⟩ ?_
  rintro ac30 wd30 ⟨O1, i, v, hsb, hN1, hi, FF30, MM30⟩
  have hT1 := hT.mono hsb
  have hc := cnt_of (FF30.get 0 rfl)
  by_cases hlt : i < 2 * r + 1
  · skip
    refine rg_seq FF30 MM30 [o_, o_, u_ 1 (iN (m + r)), w_ 2, o_, o_, o_, u_ 1 (iN (m - r)), o_, w_ 2, o_] [7, 6, 5, 3, 43] (fun Kt => CallP Tryd.prog 13 [pT gk] ((b0, oC #[nv (toN a b r m i) v] 37) :: (b1, oC #[nv 1 lv10] 37) :: (gk, oC #[iN a, iN b, iN r, iN m] 73) :: (bn, .cells (cn .u8 X) 58) :: O1) (iN (m + r)) ∧ (m - r + i) ≤ (m + r) ∧ CallP Tryd.prog 11 [pT gk] ((b0, oC #[nv (toN a b r m i) v] 37) :: (b1, oC #[nv 1 lv10] 37) :: (gk, oC #[iN a, iN b, iN r, iN m] 73) :: (bn, .cells (cn .u8 X) 58) :: O1) (iN (m - r)) ∧ (m - r) + 20 < 9223372036854775808 ∧ (m - r + i) < ((m - r) + 20) ∧ Kt [(43, .bool true), (7, iN (m - r + i)), (6, pT b0), (5, pT b1), (3, pT gk)] ((b0, oC #[nv (toN a b r m i) v] 37) :: (b1, oC #[nv 1 lv10] 37) :: (gk, oC #[iN a, iN b, iN r, iN m] 73) :: (bn, .cells (cn .u8 X) 58) :: O1)) (by kernel_rfl) (fun _ => by kernel_rfl) (⟨⟨en_kmost, fun w Hw => kmost_any gk a b r m hk w (Hw 2 _ rfl)⟩, (by omega), ⟨en_kleast, fun w Hw => kleast_any gk a b r m hk w (Hw 2 _ rfl)⟩, (by omega), (by omega), fun ac31 wd31 FF31 MM31 => ?_⟩)
    refine then_n (.inl ⟨FF31.ev 0 rfl, ?_⟩)
    have hup : toN a b r m i < toN a b r m (i + 1) := Nat.lt_add_of_pos_right (wgi_pos hk hlt)
    refine wp_seq (rg_predF [6] FF31 MM31 [.inl (aG #[nv (toN a b r m i) v]), .inl (pT gk), .inl (iN (m - r + i)), (.inr (fun v => .agg #[nv (wgZ a b r m ((m - r + i : Nat) : Int)) v], fun v w => NatNew wd31.heap.size w (nv (wgZ a b r m ((m - r + i : Nat) : Int)) v) (wgZ a b r m ((m - r + i : Nat) : Int))) : Spec), (.inr (fun v => .slice (pOf v) 2 2, fun v w => RowNs w (pOf v) [toN a b r m i, wgZ a b r m ((m - r + i : Nat) : Int)]) : Spec), (.inr (fun v => .agg #[nv (toN a b r m (i + 1)) v], fun v w => NatNew wd31.heap.size w (nv (toN a b r m (i + 1)) v) (toN a b r m (i + 1))) : Spec), (.inr (cellMk, fun v w => CellC wd31.heap.size w v (oC #[.slice none 0 0] 37)) : Spec)] [some (b_ 0), some (o_), some (o_), none, some (o_), none, some (o_)] [8, 51, 7, 6, 5, 3] (fun lx wq => [(b0 = b0 ∧ (#[nv (toN a b r m i) v] : Array Value).size = 1 ∧ aG #[nv (toN a b r m i) v] = aG #[nv (toN a b r m i) v]), (pT gk = pT gk), (iN (m - r + i) = iN (m - r + i)), (CallQ Tryd.prog 20 [pT gk, iN (m - r + i)] wq (.inr (fun v => .agg #[nv (wgZ a b r m ((m - r + i : Nat) : Int)) v], fun v w => NatNew wd31.heap.size w (nv (wgZ a b r m ((m - r + i : Nat) : Int)) v) (wgZ a b r m ((m - r + i : Nat) : Int))) : Spec)), (NatNew wd31.heap.size wq (nv (wgZ a b r m ((m - r + i : Nat) : Int)) (lx 3)) (wgZ a b r m ((m - r + i : Nat) : Int)) → (∀ w', Below wq.heap.size wq w' → w'.heap[wq.heap.size]? = some (oC #[nv (toN a b r m i) v, nv (wgZ a b r m ((m - r + i : Nat) : Int)) (lx 3)] 37) → ∃ y, Value.slice (some ⟨wq.heap.size, 0, none⟩) 2 2 = (fun v => .slice (pOf v) 2 2) y ∧ RowNs w' (pOf y) [toN a b r m i, wgZ a b r m ((m - r + i : Nat) : Int)])), (RowNs wq (pOf (lx 4)) [toN a b r m i, wgZ a b r m ((m - r + i : Nat) : Int)] → NatNew wd31.heap.size wq (nv (wgZ a b r m ((m - r + i : Nat) : Int)) (lx 3)) (wgZ a b r m ((m - r + i : Nat) : Int)) → CallQ Tryd.prog 31 [.slice (pOf (lx 4)) 2 2] wq (.inr (fun v => .agg #[nv (toN a b r m (i + 1)) v], fun v w => NatNew wd31.heap.size w (nv (toN a b r m (i + 1)) v) (toN a b r m (i + 1))) : Spec)), ((∀ w', Below wq.heap.size wq w' → w'.heap[wq.heap.size]? = some (oC #[.slice none 0 0] 37) → ∃ y, Value.pointer (some ⟨wq.heap.size, 0, none⟩) = (cellMk) y ∧ CellC wd31.heap.size w' y (oC #[.slice none 0 0] 37)))]) (fun lx => [(8, .pointer (some ⟨(gOf (pOf (lx 6))), 0, none⟩)), (51, aG #[nv (toN a b r m (i + 1)) (lx 5)]), (7, iN (m - r + i)), (6, pT b0), (5, pT b1), (3, pT gk)]) (by kernel_rfl) (by kernel_rfl) (by kernel_rfl) ⟨⟨_, _, _, rfl, rfl, rfl, rfl, fun _ _ h => lt_of_block h.2⟩, trivial⟩ ⟨(fun v w w1 => natNew_st _ _ (nv _ v) w w1), (rowNs_st [toN a b r m i, wgZ a b r m ((m - r + i : Nat) : Int)]), (fun v w w1 => natNew_st _ _ (nv _ v) w w1), (cellC_st _ _), trivial⟩ (fun _ _ => by kernel_rfl) (fun _ => by kernel_rfl) (fun lx wq hB9 hH9 => ⟨(⟨rfl, rfl, rfl⟩), (rfl), (rfl), (⟨en_kweight, (kweight_any gk a b r m hk ((m - r + i : Nat) : Int) (by omega) (by omega) wq (hH9 2 _ rfl)).mono fun _ _ ⟨v, h1, h2, h3⟩ => ⟨v, h1, h2, h3.mono hB9.size⟩⟩), (fun h3_0 => fun w' hb hh => ⟨.slice (some ⟨wq.heap.size, 0, none⟩) 2 2, rfl, _, nats2 hh (((hN1.get 0 rfl).at (Has.tl (Has.tl (Has.tl (Has.tl hH9))))).keep hb) (h3_0.1.keep hb)⟩), (fun h4_0 h3_1 => ⟨en_nadd, (nadd2r (toN a b r m i) (wgZ a b r m ((m - r + i : Nat) : Int)) (le_b (show toN a b r m (i + 1) < 2 ^ 20 from tob hk (by omega)) (by decide)) wq h4_0).mono fun _ _ ⟨v, h1, h2, h3⟩ => ⟨v, h1, h2, h3.mono hB9.size⟩⟩), (fun w' hb hh => ⟨.slice (some ⟨wq.heap.size, 0, none⟩) 0 0, rfl, hB9.size, hh⟩), trivial⟩) (fun lx ac32 wd32 hx33 hne35 hB34 FF32 MM32 => ?_))
    obtain ⟨hl3, hl4, hl5, hl6, -⟩ := hx33
    clear hne35
    generalize lx 3 = lv36 at *
    generalize lx 4 = lv37 at *
    generalize lx 5 = lv38 at *
    generalize lx 6 = lv39 at *
    have MM40 : MemS (fun k => k < w0.heap.size ∧ ∀ x ∈ O, x.1 ≠ k) w0 wd32 (((gOf (pOf lv39)), oC #[.slice none 0 0] 37) :: (b0, oC #[nv (toN a b r m i) v] 37) :: (b1, oC #[nv 1 lv10] 37) :: (gk, oC #[iN a, iN b, iN r, iN m] 73) :: (bn, .cells (cn .u8 X) 58) :: O1) [] := MemS.addFreshC (Cs := []) MM31 MM32 hl6.2 hl6.1 ne_nil
    generalize (gOf (pOf lv39)) = b8 at *
    obtain ⟨O41, MM420, hN43, hs44⟩ := MemS.addNatC (Cs := [(b8, oC #[.slice none 0 0] 37)]) (K := [(b0, oC #[nv (toN a b r m i) v] 37), (b1, oC #[nv 1 lv10] 37), (gk, oC #[iN a, iN b, iN r, iN m] 73), (bn, .cells (cn .u8 X) 58)]) (O := O1) (O1 := O1) MM31 MM40 (.cons NoNat.nil (by simp)) hl5 hN1
    have MM42 : MemS (fun k => k < w0.heap.size ∧ ∀ x ∈ O, x.1 ≠ k) w0 wd32 ((b8, oC #[.slice none 0 0] 37) :: (b0, oC #[nv (toN a b r m i) v] 37) :: (b1, oC #[nv 1 lv10] 37) :: (gk, oC #[iN a, iN b, iN r, iN m] 73) :: (bn, .cells (cn .u8 X) 58) :: O41) [] := MM420
    have hT_45 := hT1.mono hs44
    have hz46 : ∀ x ∈ O, x ∈ O41 := fun x hx => hs44 x (hsb x hx)
    refine rg_part 1 FF32 MM42 [b_ 0] [7, 6, 5, 3, 8] (fun Kt => b8 = b8 ∧ (#[.slice none 0 0] : Array Value).size = 1 ∧ (#[nv (toN a b r m (i + 1)) lv38] : Array Value).size = 1 ∧ (#[nv (toN a b r m (i + 1)) lv38] : Array Value).all (·.oneCell') = true ∧ (0, 0).2 = 0 ∧ Kt [(8, pT b8), (7, iN (m - r + i)), (6, pT b0), (5, pT b1), (3, pT gk)] ((b8, oC #[nv (toN a b r m (i + 1)) lv38] 37) :: (b0, oC #[nv (toN a b r m i) v] 37) :: (b1, oC #[nv 1 lv10] 37) :: (gk, oC #[iN a, iN b, iN r, iN m] 73) :: (bn, .cells (cn .u8 X) 58) :: O41)) (by kernel_rfl) (fun _ => by kernel_rfl) (⟨rfl, rfl, rfl, (by kernel_rfl), rfl, fun ac47 wd47 FF47 MM47 => ?_⟩)
    refine wpl_nil (then_n ?_)
    refine wp_seq (wp_region_list ?_)
    refine rg_part 2 FF47 MM47 [b_ 0, b_ 2] [8, 7, 6, 5, 3, 53, 54] (fun Kt => b8 = b8 ∧ (#[nv (toN a b r m (i + 1)) lv38] : Array Value).size = 1 ∧ b1 = b1 ∧ (#[nv 1 lv10] : Array Value).size = 1 ∧ Kt [(54, aG #[nv 1 lv10]), (53, aG #[nv (toN a b r m (i + 1)) lv38]), (8, pT b8), (7, iN (m - r + i)), (6, pT b0), (5, pT b1), (3, pT gk)] ((b8, oC #[nv (toN a b r m (i + 1)) lv38] 37) :: (b0, oC #[nv (toN a b r m i) v] 37) :: (b1, oC #[nv 1 lv10] 37) :: (gk, oC #[iN a, iN b, iN r, iN m] 73) :: (bn, .cells (cn .u8 X) 58) :: O41)) (by kernel_rfl) (fun _ => by kernel_rfl) (⟨rfl, rfl, rfl, rfl, fun ac48 wd48 FF48 MM48 => ?_⟩)
    refine st_callE [8, 7, 6, 5, 3, 55] FF48 (d := 55) (mk := fun v => .tuple #[.agg #[nv ((toN a b r m (i + 1)) - 1) v], .bool true]) en_nsub rfl rfl (by have h0 := nsub_any (toN a b r m (i + 1)) 1 lv38 lv10 (qok (le_b (show toN a b r m (i + 1) < 2 ^ 20 from tob hk (by omega)) (by decide))) wd48 ((hN43.get 0 rfl).at (Has.tl (Has.tl (Has.tl (Has.tl (Has.tl MM48.hasL)))))) ((hN43.get 2 rfl).at (Has.tl (Has.tl (Has.tl (Has.tl (Has.tl MM48.hasL)))))); rw [decide_eq_true (show 1 ≤ toN a b r m (i + 1) by omega)] at h0; exact h0) rfl (by kernel_rfl) (by decide) fun ac50 wd50 lv49 (FF50 : Fr 109 ac50 [(55, .tuple #[aG #[nv ((toN a b r m (i + 1)) - 1) lv49], .bool true]), (8, pT b8), (7, iN (m - r + i)), (6, pT b0), (5, pT b1), (3, pT gk)]) hr51 => ?_
    obtain ⟨O52, MM530, hN54, hs55⟩ := MemS.addNats (K := [(b8, oC #[nv (toN a b r m (i + 1)) lv38] 37), (b0, oC #[nv (toN a b r m i) v] 37), (b1, oC #[nv 1 lv10] 37), (gk, oC #[iN a, iN b, iN r, iN m] 73), (bn, .cells (cn .u8 X) 58)]) (O := O41) MM48 hr51.1 hr51.2 hN43
    have MM53 : MemS (fun k => k < w0.heap.size ∧ ∀ x ∈ O, x.1 ≠ k) w0 wd50 ((b8, oC #[nv (toN a b r m (i + 1)) lv38] 37) :: (b0, oC #[nv (toN a b r m i) v] 37) :: (b1, oC #[nv 1 lv10] 37) :: (gk, oC #[iN a, iN b, iN r, iN m] 73) :: (bn, .cells (cn .u8 X) 58) :: O52) [] := MM530
    have hT_56 := hT_45.mono hs55
    have hz57 : ∀ x ∈ O, x ∈ O52 := fun x hx => hs55 x (hz46 x hx)
    refine rg_part 6 FF50 MM53 [o_, o_, o_, o_, b_ 0, o_] [8, 7, 6, 5, 3, 9, 10] (fun Kt => ∀ b9, b9 = b9 ∧ (#[.slice none 0 0] : Array Value).size = 1 ∧ (#[nv ((toN a b r m (i + 1)) - 1) lv49] : Array Value).size = 1 ∧ (#[nv ((toN a b r m (i + 1)) - 1) lv49] : Array Value).all (·.oneCell') = true ∧ (0, 0).2 = 0 ∧ Kt [(10, .bool true), (9, pT b9), (8, pT b8), (7, iN (m - r + i)), (6, pT b0), (5, pT b1), (3, pT gk)] ((b9, oC #[nv ((toN a b r m (i + 1)) - 1) lv49] 37) :: (b8, oC #[nv (toN a b r m (i + 1)) lv38] 37) :: (b0, oC #[nv (toN a b r m i) v] 37) :: (b1, oC #[nv 1 lv10] 37) :: (gk, oC #[iN a, iN b, iN r, iN m] 73) :: (bn, .cells (cn .u8 X) 58) :: O52)) (by kernel_rfl) (fun _ => by kernel_rfl) (fun b9 => ⟨rfl, rfl, rfl, (by kernel_rfl), rfl, fun ac58 wd58 FF58 MM58 => ?_⟩)
    refine wpl_nil (then_n ?_)
    refine wp_seq (rg_seq FF58 MM58 [o_, b_ 2, u_ 1 (.tuple #[iN (m - r + i), .bool true]), o_, o_, o_, o_, o_] [10, 9, 8, 7, 6, 5, 3, 11, 12] (fun Kt => b0 = b0 ∧ (#[nv (toN a b r m i) v] : Array Value).size = 1 ∧ CallP Tryd.prog 21 [pT gk, aG #[nv (toN a b r m i) v]] ((b9, oC #[nv ((toN a b r m (i + 1)) - 1) lv49] 37) :: (b8, oC #[nv (toN a b r m (i + 1)) lv38] 37) :: (b0, oC #[nv (toN a b r m i) v] 37) :: (b1, oC #[nv 1 lv10] 37) :: (gk, oC #[iN a, iN b, iN r, iN m] 73) :: (bn, .cells (cn .u8 X) 58) :: O52) (.tuple #[iN (m - r + i), .bool true]) ∧ Kt [(12, .bool true), (11, iN (m - r + i)), (10, .bool true), (9, pT b9), (8, pT b8), (7, iN (m - r + i)), (6, pT b0), (5, pT b1), (3, pT gk)] ((b9, oC #[nv ((toN a b r m (i + 1)) - 1) lv49] 37) :: (b8, oC #[nv (toN a b r m (i + 1)) lv38] 37) :: (b0, oC #[nv (toN a b r m i) v] 37) :: (b1, oC #[nv 1 lv10] 37) :: (gk, oC #[iN a, iN b, iN r, iN m] 73) :: (bn, .cells (cn .u8 X) 58) :: O52)) (by kernel_rfl) (fun _ => by kernel_rfl) (⟨rfl, rfl, ⟨en_kat, fun w Hw => (by have h0 := kat_any gk a b r m hk (toN a b r m i) v (qok (le_b (tob hk (by omega)) (by decide))) w (Hw 4 _ rfl) ((hN54.get 2 rfl).at (Has.tl (Has.tl (Has.tl (Has.tl (Has.tl (Has.tl Hw))))))); rw [a_yes (w := toN a b r m i) hlt (by omega) (by omega), decide_eq_true (atw_lt (w := toN a b r m i) hlt (by omega))] at h0; exact h0)⟩, fun ac59 wd59 FF59 MM59 => then_n ?_⟩))
    refine wp_seq (rg_seq FF59 MM59 [o_, b_ 0, u_ 1 (.tuple #[iN (m - r + i), .bool true]), o_, o_, o_, o_, o_] [12, 11, 10, 9, 8, 7, 6, 5, 3, 13, 14] (fun Kt => b9 = b9 ∧ (#[nv ((toN a b r m (i + 1)) - 1) lv49] : Array Value).size = 1 ∧ CallP Tryd.prog 21 [pT gk, aG #[nv ((toN a b r m (i + 1)) - 1) lv49]] ((b9, oC #[nv ((toN a b r m (i + 1)) - 1) lv49] 37) :: (b8, oC #[nv (toN a b r m (i + 1)) lv38] 37) :: (b0, oC #[nv (toN a b r m i) v] 37) :: (b1, oC #[nv 1 lv10] 37) :: (gk, oC #[iN a, iN b, iN r, iN m] 73) :: (bn, .cells (cn .u8 X) 58) :: O52) (.tuple #[iN (m - r + i), .bool true]) ∧ Kt [(14, .bool true), (13, iN (m - r + i)), (12, .bool true), (11, iN (m - r + i)), (10, .bool true), (9, pT b9), (8, pT b8), (7, iN (m - r + i)), (6, pT b0), (5, pT b1), (3, pT gk)] ((b9, oC #[nv ((toN a b r m (i + 1)) - 1) lv49] 37) :: (b8, oC #[nv (toN a b r m (i + 1)) lv38] 37) :: (b0, oC #[nv (toN a b r m i) v] 37) :: (b1, oC #[nv 1 lv10] 37) :: (gk, oC #[iN a, iN b, iN r, iN m] 73) :: (bn, .cells (cn .u8 X) 58) :: O52)) (by kernel_rfl) (fun _ => by kernel_rfl) (⟨rfl, rfl, ⟨en_kat, fun w Hw => (by have h0 := kat_any gk a b r m hk ((toN a b r m (i + 1)) - 1) lv49 (qok (le_b (Nat.lt_of_le_of_lt (Nat.sub_le _ _) (tob hk (by omega))) (by decide))) w (Hw 4 _ rfl) ((hN54.get 0 rfl).at (Has.tl (Has.tl (Has.tl (Has.tl (Has.tl (Has.tl Hw))))))); rw [a_yes (w := toN a b r m (i + 1) - 1) hlt (by omega) (by omega), decide_eq_true (atw_lt (w := toN a b r m (i + 1) - 1) hlt (by omega))] at h0; exact h0)⟩, fun ac60 wd60 FF60 MM60 => then_n ?_⟩))
    refine wp_seq ?_
    refine wp_seq (rg_seq FF60 MM60 [o_, o_, o_, o_, o_, o_, o_, o_, o_, o_, o_, o_, o_, w_ 3, o_, o_, o_, o_, w_ 3, o_] [14, 13, 12, 11, 10, 9, 8, 7, 6, 5, 3, 89] (fun Kt => ¬ ((m - r + i) ≠ (m - r + i)) ∧ ¬ ((m - r + i) ≠ (m - r + i)) ∧ Kt [(89, .bool false), (14, .bool true), (13, iN (m - r + i)), (12, .bool true), (11, iN (m - r + i)), (10, .bool true), (9, pT b9), (8, pT b8), (7, iN (m - r + i)), (6, pT b0), (5, pT b1), (3, pT gk)] ((b9, oC #[nv ((toN a b r m (i + 1)) - 1) lv49] 37) :: (b8, oC #[nv (toN a b r m (i + 1)) lv38] 37) :: (b0, oC #[nv (toN a b r m i) v] 37) :: (b1, oC #[nv 1 lv10] 37) :: (gk, oC #[iN a, iN b, iN r, iN m] 73) :: (bn, .cells (cn .u8 X) 58) :: O52)) (by kernel_rfl) (fun _ => by kernel_rfl) (⟨(fun h => h rfl), (fun h => h rfl), fun ac61 wd61 FF61 MM61 => then_n ?_⟩))
    refine wp_cond_false (FF61.ev 0 rfl) ?_
    refine wp_skip ?_
    refine then_n ?_
    refine rg_seq FF61 MM61 [b_ 1, b_ 2] [14, 13, 12, 11, 10, 9, 8, 7, 6, 5, 3] (fun Kt => b8 = b8 ∧ (#[nv (toN a b r m (i + 1)) lv38] : Array Value).size = 1 ∧ b0 = b0 ∧ (#[nv (toN a b r m i) v] : Array Value).size = 1 ∧ (#[nv (toN a b r m (i + 1)) lv38] : Array Value).size = 1 ∧ (#[nv (toN a b r m (i + 1)) lv38] : Array Value).all (·.oneCell') = true ∧ (0, 0).2 = 0 ∧ Kt [(14, .bool true), (13, iN (m - r + i)), (12, .bool true), (11, iN (m - r + i)), (10, .bool true), (9, pT b9), (8, pT b8), (7, iN (m - r + i)), (6, pT b0), (5, pT b1), (3, pT gk)] ((b9, oC #[nv ((toN a b r m (i + 1)) - 1) lv49] 37) :: (b8, oC #[nv (toN a b r m (i + 1)) lv38] 37) :: (b0, oC #[nv (toN a b r m (i + 1)) lv38] 37) :: (b1, oC #[nv 1 lv10] 37) :: (gk, oC #[iN a, iN b, iN r, iN m] 73) :: (bn, .cells (cn .u8 X) 58) :: O52)) (by kernel_rfl) (fun _ => by kernel_rfl) (⟨rfl, rfl, rfl, rfl, rfl, (by kernel_rfl), rfl, fun ac62 wd62 FF62 MM62 => ?_⟩)
    refine inb_n (then_n ?_)
    refine rg_seq FF62 MM62 [o_, t_ (iN (m - r + (i + 1))), o_] [14, 13, 12, 11, 10, 9, 8, 7, 6, 5, 3] (fun Kt => (m - r + i) + 1 < 9223372036854775808 ∧ iN ((m - r + i) + 1) = iN (m - r + (i + 1)) ∧ Kt [(7, iN (m - r + (i + 1))), (14, .bool true), (13, iN (m - r + i)), (12, .bool true), (11, iN (m - r + i)), (10, .bool true), (9, pT b9), (8, pT b8), (6, pT b0), (5, pT b1), (3, pT gk)] ((b9, oC #[nv ((toN a b r m (i + 1)) - 1) lv49] 37) :: (b8, oC #[nv (toN a b r m (i + 1)) lv38] 37) :: (b0, oC #[nv (toN a b r m (i + 1)) lv38] 37) :: (b1, oC #[nv 1 lv10] 37) :: (gk, oC #[iN a, iN b, iN r, iN m] 73) :: (bn, .cells (cn .u8 X) 58) :: O52)) (by kernel_rfl) (fun _ => by kernel_rfl) (⟨(by omega), (vI (by omega)), fun ac63 wd63 FF63 MM63 => ?_⟩)
    have hd := cnt_of (FF63.get 0 rfl)
    refine then_n ⟨⟨O52, i + 1, lv38, hz57, (.cons (hN54.get 1 rfl) (.cons (hN54.get 3 rfl) (.nil _))), by omega, FF63.pick [0, 8, 9, 10], ((MM63.dropAt 1).dropAt 0)⟩, ?_⟩
    rw [hc, hd]; omega
  · skip
    refine rg_seq FF30 MM30 [o_, o_, u_ 1 (iN (m + r)), w_ 3, o_, o_, o_, o_, o_, o_, o_] [7, 6, 5, 3, 43] (fun Kt => CallP Tryd.prog 13 [pT gk] ((b0, oC #[nv (toN a b r m i) v] 37) :: (b1, oC #[nv 1 lv10] 37) :: (gk, oC #[iN a, iN b, iN r, iN m] 73) :: (bn, .cells (cn .u8 X) 58) :: O1) (iN (m + r)) ∧ ¬ ((m - r + i) ≤ (m + r)) ∧ Kt [(43, .bool false), (7, iN (m - r + i)), (6, pT b0), (5, pT b1), (3, pT gk)] ((b0, oC #[nv (toN a b r m i) v] 37) :: (b1, oC #[nv 1 lv10] 37) :: (gk, oC #[iN a, iN b, iN r, iN m] 73) :: (bn, .cells (cn .u8 X) 58) :: O1)) (by kernel_rfl) (fun _ => by kernel_rfl) (⟨⟨en_kmost, fun w Hw => kmost_any gk a b r m hk w (Hw 2 _ rfl)⟩, (by omega), fun ac64 wd64 FF64 MM64 => ?_⟩)
    refine then_n (.inr ⟨FF64.ev 0 rfl, ?_⟩)
    obtain rfl : i = 2 * r + 1 := by omega
    refine then_n ?_
    refine wp_seq (rg_seq FF64 MM64 [o_, b_ 0, u_ 1 (.tuple #[iN 0, .bool false]), o_, o_, o_, o_, o_] [7, 6, 5, 3, 16] (fun Kt => b0 = b0 ∧ (#[nv (toN a b r m (2 * r + 1)) v] : Array Value).size = 1 ∧ CallP Tryd.prog 21 [pT gk, aG #[nv (toN a b r m (2 * r + 1)) v]] ((b0, oC #[nv (toN a b r m (2 * r + 1)) v] 37) :: (b1, oC #[nv 1 lv10] 37) :: (gk, oC #[iN a, iN b, iN r, iN m] 73) :: (bn, .cells (cn .u8 X) 58) :: O1) (.tuple #[iN 0, .bool false]) ∧ Kt [(16, .bool false), (7, iN (m - r + (2 * r + 1))), (6, pT b0), (5, pT b1), (3, pT gk)] ((b0, oC #[nv (toN a b r m (2 * r + 1)) v] 37) :: (b1, oC #[nv 1 lv10] 37) :: (gk, oC #[iN a, iN b, iN r, iN m] 73) :: (bn, .cells (cn .u8 X) 58) :: O1)) (by kernel_rfl) (fun _ => by kernel_rfl) (⟨rfl, rfl, ⟨en_kat, fun w Hw => (by have h0 := kat_any gk a b r m hk (toN a b r m (2 * r + 1)) v (qok (le_b (tob hk (by omega)) (by decide))) w (Hw 2 _ rfl) ((hN1.get 0 rfl).at (Has.tl (Has.tl (Has.tl (Has.tl Hw))))); rw [a_no (Nat.le_refl _), decide_eq_false (Nat.lt_irrefl _)] at h0; exact h0)⟩, fun ac65 wd65 FF65 MM65 => then_n ?_⟩))
    refine wp_seq (rg_pred FF65 MM65 [.inl (.bool false), .inl (.bool true), .inl (.bool true), .inl (aG #[nv (toN a b r m (2 * r + 1)) v]), .inl (pT gk), (.inr (fun v => .agg #[nv (toN a b r m (2 * r + 1)) v], fun v w => NatNew wd65.heap.size w (nv (toN a b r m (2 * r + 1)) v) (toN a b r m (2 * r + 1))) : Spec), (.inr (fun _ => .int .i64 ((0 : Nat) : Int), fun v w => True) : Spec), .inl (.bool true), .inl (.bool true), .inl (.bool true), .inl (.bool true), .inl (.bool true), .inl (.bool true)] [some (o_), some (o_), some (o_), some (b_ 0), some (o_), none, none, some (w_ 2), some (o_), some (o_), some (u_ 1 (.bool true)), some (o_), some (o_)] [2, 7, 6, 5, 3] (fun lx wq => [(Value.bool false = .bool false), (Value.bool true = .bool true), (Value.bool true = .bool true), (b0 = b0 ∧ (#[nv (toN a b r m (2 * r + 1)) v] : Array Value).size = 1 ∧ aG #[nv (toN a b r m (2 * r + 1)) v] = aG #[nv (toN a b r m (2 * r + 1)) v]), (pT gk = pT gk), (CallQ Tryd.prog 16 [pT gk] wq (.inr (fun v => .agg #[nv (toN a b r m (2 * r + 1)) v], fun v w => NatNew wd65.heap.size w (nv (toN a b r m (2 * r + 1)) v) (toN a b r m (2 * r + 1))) : Spec)), (NatNew wd65.heap.size wq (nv (toN a b r m (2 * r + 1)) (lx 5)) (toN a b r m (2 * r + 1)) → NatNew wd65.heap.size wq (nv (toN a b r m (2 * r + 1)) (lx 5)) (toN a b r m (2 * r + 1)) → CallQ Tryd.prog 33 [aG #[nv (toN a b r m (2 * r + 1)) v], aG #[nv (toN a b r m (2 * r + 1)) (lx 5)]] wq (.inr (fun _ => .int .i64 ((0 : Nat) : Int), fun v w => True) : Spec)), (True → 0 = 0 ∧ Value.bool true = .bool true), (Value.bool true = .bool true), (True → Value.bool true = .bool true), (CallP Tryd.prog 8 [] ((b0, oC #[nv (toN a b r m (2 * r + 1)) v] 37) :: (b1, oC #[nv 1 lv10] 37) :: (gk, oC #[iN a, iN b, iN r, iN m] 73) :: (bn, .cells (cn .u8 X) 58) :: O1) (.bool true) ∧ Value.bool true = .bool true), (Value.bool true = .bool true), (NatNew wd65.heap.size wq (nv (toN a b r m (2 * r + 1)) (lx 5)) (toN a b r m (2 * r + 1)) → True → Value.bool true = .bool true)]) (fun lx => [(2, .bool true), (7, iN (m - r + (2 * r + 1))), (6, pT b0), (5, pT b1), (3, pT gk)]) (by kernel_rfl) (by kernel_rfl) (by kernel_rfl) ⟨(fun v w w1 => natNew_st _ _ (nv _ v) w w1), (fun _ _ _ _ _ => trivial), trivial⟩ (fun _ _ => by kernel_rfl) (fun _ => by kernel_rfl) (fun lx wq hB9 hH9 => ⟨(rfl), (rfl), (rfl), (⟨rfl, rfl, rfl⟩), (rfl), (⟨en_ktotal, (ktotal_any gk a b r m hk wq (hH9 2 _ rfl)).mono fun _ _ ⟨v, h1, h2, h3⟩ => ⟨v, h1, h2, h3.mono hB9.size⟩⟩), (fun h5_0 h5_1 => ⟨en_ncmp, (ncmp_any (toN a b r m (2 * r + 1)) v (qok (le_b (tob hk (by omega)) (by decide))) (toN a b r m (2 * r + 1)) (lx 5) wq ((hN1.get 0 rfl).at (Has.tl (Has.tl (Has.tl (Has.tl hH9))))) h5_1.1).mono fun _ _ ⟨h1, h2⟩ => ⟨undef, (h1.trans (by rw [← cmp0 (rfl)]; rfl)), h2, trivial⟩⟩), (fun h6_0 => ⟨rfl, rfl⟩), (rfl), (fun h6_0 => rfl), (⟨⟨en_lawwakes, fun w Hw => wakes_w w (hT1.at (Has.tl (Has.tl (Has.tl (Has.tl Hw)))))⟩, rfl⟩), (rfl), (fun h5_0 h6_1 => rfl), trivial⟩) (fun lx ac66 wd66 hx67 hB68 FF66 MM66 => ?_))
    obtain ⟨hl5, hl6, -⟩ := hx67
    generalize lx 5 = lv70 at *
    generalize lx 6 = lv71 at *
    refine wpl_nil (then_n ?_)
    refine wp_ret ?_
    repeat first | refine then_ret ?_ | refine inb_ret ?_
    exact (ret_fr FF66 0 Tryd.results4 rfl ⟨rfl, MM66.belowN H (fun _ hx => List.mem_cons_of_mem _ (List.mem_cons_of_mem _ (List.mem_cons_of_mem _ (List.mem_cons_of_mem _ (hsb _ hx)))))⟩)
end Go.Proofs.YtlljedijldkcbaaDoor
namespace Go.Proofs.YtlljedijldkcbaaDoor
open Go.RowKit
def pw10 : List Nat := [1, 10, 100, 1000, 10000, 100000, 1000000, 10000000, 100000000, 1000000000, 10000000000, 100000000000, 1000000000000, 10000000000000, 100000000000000, 1000000000000000, 10000000000000000, 100000000000000000, 1000000000000000000, 10000000000000000000]
theorem pw10_at : ∀ i : Fin 20, pw10[i.val]? = some (10 ^ i.val) := by decide +kernel
theorem tab_in {w : World} {T : TypeId} {fr : Nat × Nat} (h : w.heap[2]? = some (.cells (cn .u64 pw10) T fr)) : TabIn w := .inr ⟨2, _, T, fr, rfl, h, fun j hj => by
  have := pw10_at ⟨j, hj⟩
  simp [cn, this]⟩
end Go.Proofs.YtlljedijldkcbaaDoor
namespace Go.Proofs.YtlljedijldkcbaaDoor
open Go.RowKit
theorem laid_mem {P : Program} {W : World} : ∀ (laid : List (String × DataW Unit)) (ps : List MemPlace), DataW.LaidVars P W laid ps → ∀ x ∈ laid, ∃ g t cs fuel p, P.globalNamed x.1 = some g ∧ (P.globals[g]?).map (·.type) = some t ∧ W.var? P x.1 = some cs ∧ DataW.trod (fun _ => ()) P W 0 (fun _ => true) false fuel t cs.toList = some (x.2, p)
  | [], _, _, _, hx => by cases hx
  | (n, d) :: r, ps, h, x, hx => by
    obtain ⟨g, t, cs, fuel, p, q, h1, h2, h3, h4, h5, _⟩ := h
    rcases List.mem_cons.1 hx with rfl | hx
    · exact ⟨g, t, cs, fuel, p, h1, h2, h3, h4⟩
    · exact laid_mem r q h5 x hx
/-- A table of numbers that is laid lies in its block. -/
theorem tab_of {P : Program} {W : World} {laid : List (String × DataW Unit)} {n : String} {D : DataW Unit} {g : Nat} {t e : TypeId} {m : Nat} {k : IntKind} {K : List Nat} (h : laidMetH P laid W) (hH : (laid.all fun x => x.2.handleName?.isNone) = true) (hx : (n, D) ∈ laid)
    (hg : P.globalNamed n = some g) (ht : (P.globals[g]?).map (·.type) = some t) (hu : P.underlying t = some (.array m e)) (he : P.underlying e = some (.int k)) (hc : P.cellsOf e = 1) (hct : P.cellsOf t = m) (hD : D = .agg (K.map fun (x : Nat) => .lit (.int k (x : Int)))) (hK : K.length = m) :
    ∃ T fr, W.heap[g]? = some (.cells (cn k K) T fr) := by
  rw [MakeChecks.laidMetH_plain _ _ _ hH] at h
  obtain ⟨ps, hl, _⟩ := h
  obtain ⟨g', t', cs, fuel, p, h1, h2, h3, h4⟩ := laid_mem laid ps hl _ hx
  obtain rfl := Option.some.inj (hg.symm.trans h1)
  obtain rfl := Option.some.inj (ht.symm.trans h2)
  have hb : ∃ T fr, W.heap[g]? = some (.cells cs T fr) := by
    simp only [World.var?, hg, Option.bind_some] at h3
    split at h3
    · rename_i c T fr hb
      cases h3
      exact ⟨T, fr, hb⟩
    · cases h3
  obtain ⟨T, fr, hb⟩ := hb
  refine ⟨T, fr, ?_⟩
  rw [hb]
  obtain ⟨xs, m1, _, hx1, hlen, hn, hel⟩ := DataW.trod_array hu h4
  have hx2 : D = .agg (xs.map fun x => x.1) := (Prod.mk.inj hx1).1
  rw [hD] at hx2
  have hx3 : (K.map fun (x : Nat) => (DataW.lit (.int k (x : Int)) : DataW Unit)) = xs.map fun x => x.1 := by injection hx2
  have hcs : cs = cn k K := by
    refine Array.ext_getElem? fun i => ?_
    rcases Nat.lt_or_ge i m with hi | hi
    · have e1 := hel i hi
      have e2 : xs[i]? = some (xs[i]'(by omega)) := by simp
      rw [e2, hc] at e1
      obtain ⟨z, e3, e4, _⟩ := DataW.trod_int he e1
      have e5 := congrArg (fun l => l[i]?) hx3
      simp only [List.getElem?_map, e2, e4, List.getElem?_eq_getElem (show i < K.length by omega), Option.map_some, Option.some.injEq, DataW.lit.injEq, Lit.int.injEq] at e5
      have e6 := congrArg (fun l => l[0]?) e3
      rw [Nat.mul_one] at e6
      have e7 : cs[i]? = some (.int k z) := by simpa using e6
      rw [e7, cn_get k K i (by omega), ← e5.2]
      simp [show i < K.length by omega]
    · rw [Array.getElem?_eq_none (by rw [← Array.length_toList, hlen, hct]; exact hi), Array.getElem?_eq_none (by rw [cn_size, hK]; exact hi)]
  rw [hcs]
end Go.Proofs.YtlljedijldkcbaaDoor
