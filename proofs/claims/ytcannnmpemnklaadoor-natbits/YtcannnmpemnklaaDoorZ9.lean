/- Several texts in one: The law NatBits. The table of the powers of ten, as the text lays it. From a walk to a row: a law that returns true and writes nothing that was there; arrays of bytes that come in. A row of texts that comes in. Package-level tables of numbers: what the row says that they hold, as a block. -/
import Derived.Test.YtcannnmpemnklaaDoorZ8
import Derived.Test.YtcannnmpemnklaaDoorZ5
import Derived.Test.YtcannnmpemnklaaDoorRows
import Derived.WalkKit
import Derived.Test.YtcannnmpemnklaaDoorZ1
import Derived.Below
import Derived.ProofKit
import Derived.OpenShut
import Derived.ChangeOld
import Derived.Test.YtcannnmpemnklaaDoorZ3
import Derived.SliceStrings
import Derived.MakeChecks
import Derived.LaidMore
import Derived.LaidHandle
import Derived.Stop.Joined
namespace Go.Proofs.YtcannnmpemnklaaDoor
open Go.RowKit

theorem en_wakes : Enters Tryd.prog 8 := fun args w => by simp [go_sem]
theorem wakes_w (w : World) (hT : TabIn w) : Calls Tryd.prog 8 #[] w fun e w' => e = .returned (.bool true) ∧ Below w.heap.size w w' := by
  obtain ⟨O, g1, g2, g3⟩ := tab_O hT
  exact wakes_any O (distinct_of g2) g3 w g1
theorem leV_60 {X : List Nat} (hX : ∀ i, X.getD i 0 < 256) (h : X.length ≤ 60) : leV X < 256 ^ 60 := Nat.lt_of_lt_of_le (leV_lt X hX) (Nat.pow_le_pow_right (by decide) h)
theorem big60 {N : Nat} (h : N < 256 ^ 60) : N < 18446744073709551616 ^ 100 := Nat.lt_of_lt_of_le h (by decide +kernel)
theorem bsz_60 {N : Nat} (h : N < 256 ^ 60) : bsz N ≤ 480 := bsz_le (Nat.lt_of_lt_of_le h (by decide +kernel))
theorem leV_pad (X : List Nat) (k : Nat) : leV (X ++ List.replicate k 0) = leV X := by rw [leV_app, leV_zeros, Nat.mul_zero, Nat.add_zero]
theorem cmp_self (N : Nat) : cmpN N N = ((0 : Nat) : Int) := (cmp0 rfl).symm
theorem cmp_ge0 {M N : Nat} (h : N ≤ M) : cmpN M N ≥ ((0 : Nat) : Int) := by
  have := mt (cmp_neg M N).1 (Nat.not_lt.2 h)
  omega
theorem cmp_lt0 {M N : Nat} (h : M < N) : ¬ cmpN M N ≥ ((0 : Nat) : Int) := by
  have := (cmp_neg M N).2 h
  omega
theorem pow2ok {n : Nat} (h : n ≤ 480) : PowOk 2 n := .inr (by rw [bsz_is (N := 2) (n := 2) (by decide) (by decide)]; omega)
theorem pow2big {n : Nat} (h : n ≤ 480) : 2 ^ n < 18446744073709551616 ^ 100 := Nat.lt_of_le_of_lt (Nat.pow_le_pow_right (by decide) h) (by decide +kernel)
theorem low_same {n : Nat} (h : n < 18446744073709551616) : lowN n = n := if_pos h
theorem app_lt8 {X Y : List Nat} (hX : ∀ i, X.getD i 0 < 256) (hY : ∀ i, Y.getD i 0 < 256) (i : Nat) : (X ++ Y).getD i 0 < 256 := by
  rw [List.getD_eq_getElem?_getD]
  rcases Nat.lt_or_ge i X.length with h | h
  · rw [List.getElem?_append_left h, ← List.getD_eq_getElem?_getD]; exact hX i
  · rw [List.getElem?_append_right h, ← List.getD_eq_getElem?_getD]; exact hY _
/-- A block of noughts. -/
def ZIn (w : World) (p : Option Addr) (k : Nat) (T : TypeId) : Prop := ∃ b, p = some ⟨b, 0, none⟩ ∧ w.heap[b]? = some (.cells (cn .u8 (List.replicate k 0)) T)
theorem zin_st (k : Nat) (T : TypeId) : ∀ (v : Value) (w w' : World), ZIn w (pOf v) k T → Below w.heap.size w w' → ZIn w' (pOf v) k T := fun _ _ _ ⟨b, h1, h2⟩ hb => ⟨b, h1, (hb.block b (lt_of_block h2)).trans h2⟩
theorem zin_run {P : Program} {l : Slots} {o : Oper} {w : World} {p : Option Addr} {k c : Nat} {T e src dst : TypeId} {x : Operand} (hz : ZIn w p k T) (ho : o.op = .convert src dst x) (hx : evO l x = some (.slice p k c)) (h1 : P.underlying src = some (.slice e)) (h2 : P.underlying e = some (.int .u8)) (h3 : P.underlying dst = some .string) :
    RunW P l o (.string (bs (List.replicate k 0))) w := fun ρ A => by
  obtain ⟨b, rfl, hb⟩ := hz
  have hv := A x _ hx
  have h := run_convert_bytes_arg (P := P) w src e h1 h2 b 0 k c ((List.replicate k 0).map fun (x : Nat) => (x : Int)) (by simp) (fun i hi => by
    rw [Nat.zero_add, cell_of hb]
    simp [cn, hi]) dst h3
  have e2 : strOfNums ((List.replicate k 0).map fun (x : Nat) => (x : Int)) = bs (List.replicate k 0) := by simp [strOfNums, bs]
  rw [e2] at h
  simp only [execOp, ho, hv, Sem.run_bind, h, Result.andThen_ok, Sem.run_pure]
set_option maxRecDepth 100000 in
theorem natbits_any (O : Blks) (hD : Distinct O) (hT : TabO O) (X : List Nat) (hX : ∀ i, X.getD i 0 < 256) (hl : X.length < 9223372036854775808) (k n : Nat) (hk : k < 256) (hn : n < 18446744073709551616) (w0 : World) (H : Has w0 O) :
    Calls Tryd.prog 7 #[.string (bs X), .int .u8 (k : Nat), .int .u64 (n : Nat)] w0 fun e w' => e = .returned (.bool true) ∧ Below w0.heap.size w0 w' := by
  refine enter_fr Tryd.func7 rfl Tryd.ntmps7 (by simp) fun ac (FF : Fr 89 ac [(0, .string (bs X)), (1, .int .u8 (k : Nat)), (2, .int .u64 (n : Nat))]) => ?_
  have MM : MemS (fun k => k < w0.heap.size ∧ ∀ x ∈ O, x.1 ≠ k) w0 w0 O [] := MemS.startN H hD
  refine wp_seq (rg_seq FF MM [o_] [0, 1, 2, 6] (fun Kt => Kt [(6, .bool false), (0, .string (bs X)), (1, .int .u8 (k : Nat)), (2, .int .u64 (n : Nat))] O) (by kernel_rfl) (fun _ => by kernel_rfl) (fun ac1 wd1 FF1 MM1 => then_n ?_))
  refine wp_seq ?_
  refine wp_seq (rg_seq FF1 MM1 [o_, t_ (.int .i64 (X.length : Nat)), o_] [6, 0, 1, 2, 17] (fun Kt => Value.int .i64 ((bs X).size : Nat) = .int .i64 (X.length : Nat) ∧ Kt [(17, .bool (decide (X.length > 60))), (6, .bool false), (0, .string (bs X)), (1, .int .u8 (k : Nat)), (2, .int .u64 (n : Nat))] O) (by kernel_rfl) (fun _ => by kernel_rfl) (⟨(vI (bs_size _)), fun ac2 wd2 FF2 MM2 => then_n ?_⟩))
  by_cases hs17 : X.length > 60
  · refine wp_cond_true ((FF2.ev 0 rfl).trans (dec_t hs17)) ?_
    refine wp_seq (rg_seq FF2 MM2 [u_ 1 (.bool true), o_] [6, 0, 1, 2] (fun Kt => CallP Tryd.prog 8 [] O (.bool true) ∧ Kt [(6, .bool true), (0, .string (bs X)), (1, .int .u8 (k : Nat)), (2, .int .u64 (n : Nat))] O) (by kernel_rfl) (fun _ => by kernel_rfl) (⟨⟨en_wakes, fun w Hw => wakes_w w (hT.at Hw)⟩, fun ac3 wd3 FF3 MM3 => then_n ?_⟩))
    refine wp_ret ?_
    repeat first | refine then_ret ?_ | refine inb_ret ?_
    exact (ret_fr FF3 0 Tryd.results7 rfl ⟨rfl, MM3.belowN H (fun _ hx => hx)⟩)
  · refine wp_cond_false ((FF2.ev 0 rfl).trans (dec_f hs17)) ?_
    have hN := leV_60 hX (Nat.not_lt.1 hs17)
    have hB := big60 hN
    have hb := bsz_60 hN
    refine wp_skip ?_
    refine then_n ?_
    refine wp_seq (wp_region_list ?_)
    refine rg_part 1 FF2 MM2 [o_] [6, 0, 1, 2, 19] (fun Kt => Kt [(19, .string (bs X)), (6, .bool false), (0, .string (bs X)), (1, .int .u8 (k : Nat)), (2, .int .u64 (n : Nat))] O) (by kernel_rfl) (fun _ => by kernel_rfl) (fun ac4 wd4 FF4 MM4 => ?_)
    refine st_callE [6, 0, 1, 2, 20] FF4 (d := 20) (mk := fun v => .agg #[nv (leV X) v]) en_nbytes rfl rfl (nbytes_any X hX (by omega) _) rfl (by kernel_rfl) (by decide) fun ac6 wd6 lv5 (FF6 : Fr 89 ac6 [(20, .agg (#[nv (leV X) lv5] : Array Value)), (6, .bool false), (0, .string (bs X)), (1, .int .u8 (k : Nat)), (2, .int .u64 (n : Nat))]) hr7 => ?_
    obtain ⟨O8, MM90, hN10, hs11⟩ := MemS.addNats (K := []) (O := O) MM4 hr7.1 hr7.2 (Nats.nil O)
    have MM9 : MemS (fun k => k < w0.heap.size ∧ ∀ x ∈ O, x.1 ≠ k) w0 wd6 O8 [] := MM90
    have hT_12 := hT.mono hs11
    refine rg_part 2 FF6 MM9 [o_, b_ 0] [6, 0, 1, 2, 7] (fun Kt => ∀ ba, ba = ba ∧ (#[.slice none 0 0] : Array Value).size = 1 ∧ (#[nv (leV X) lv5] : Array Value).size = 1 ∧ (#[nv (leV X) lv5] : Array Value).all (·.oneCell') = true ∧ (0, 0).2 = 0 ∧ Kt [(7, .pointer (some ⟨ba, 0, none⟩)), (6, .bool false), (0, .string (bs X)), (1, .int .u8 (k : Nat)), (2, .int .u64 (n : Nat))] ((ba, .cells (#[nv (leV X) lv5] : Array Value) 27) :: O8)) (by kernel_rfl) (fun _ => by kernel_rfl) (fun ba => ⟨rfl, rfl, rfl, (by kernel_rfl), rfl, fun ac13 wd13 FF13 MM13 => ?_⟩)
    refine wpl_nil (then_n ?_)
    refine wp_seq (rg_seq FF13 MM13 [b_ 0, u_ 1 (.int .i64 (bsz (leV X) : Nat)), o_] [7, 6, 0, 1, 2, 8] (fun Kt => ba = ba ∧ (#[nv (leV X) lv5] : Array Value).size = 1 ∧ CallP Tryd.prog 15 [.agg (#[nv (leV X) lv5] : Array Value)] ((ba, .cells (#[nv (leV X) lv5] : Array Value) 27) :: O8) (.int .i64 (bsz (leV X) : Nat)) ∧ Kt [(8, .int .i64 (bsz (leV X) : Nat)), (7, .pointer (some ⟨ba, 0, none⟩)), (6, .bool false), (0, .string (bs X)), (1, .int .u8 (k : Nat)), (2, .int .u64 (n : Nat))] ((ba, .cells (#[nv (leV X) lv5] : Array Value) 27) :: O8)) (by kernel_rfl) (fun _ => by kernel_rfl) (⟨rfl, rfl, ⟨en_nbits, fun w Hw => nbits_any (leV X) lv5 (qok hB) w ((hN10.get 0 rfl).at (Has.tl Hw))⟩, fun ac14 wd14 FF14 MM14 => then_n ?_⟩))
    refine wp_seq (wp_region_list ?_)
    refine rg_part 1 FF14 MM14 [o_] [8, 7, 6, 0, 1, 2, 24] (fun Kt => Kt [(24, .int .u64 (n : Nat)), (8, .int .i64 (bsz (leV X) : Nat)), (7, .pointer (some ⟨ba, 0, none⟩)), (6, .bool false), (0, .string (bs X)), (1, .int .u8 (k : Nat)), (2, .int .u64 (n : Nat))] ((ba, .cells (#[nv (leV X) lv5] : Array Value) 27) :: O8)) (by kernel_rfl) (fun _ => by kernel_rfl) (fun ac15 wd15 FF15 MM15 => ?_)
    refine st_callE [8, 7, 6, 0, 1, 2, 25] FF15 (d := 25) (mk := fun v => .agg #[nv (n) v]) en_nof rfl rfl (nof_any n hn _) rfl (by kernel_rfl) (by decide) fun ac17 wd17 lv16 (FF17 : Fr 89 ac17 [(25, .agg (#[nv n lv16] : Array Value)), (8, .int .i64 (bsz (leV X) : Nat)), (7, .pointer (some ⟨ba, 0, none⟩)), (6, .bool false), (0, .string (bs X)), (1, .int .u8 (k : Nat)), (2, .int .u64 (n : Nat))]) hr18 => ?_
    obtain ⟨O19, MM200, hN21, hs22⟩ := MemS.addNats (K := [(ba, .cells (#[nv (leV X) lv5] : Array Value) 27)]) (O := O8) MM15 hr18.1 hr18.2 hN10
    have MM20 : MemS (fun k => k < w0.heap.size ∧ ∀ x ∈ O, x.1 ≠ k) w0 wd17 ((ba, .cells (#[nv (leV X) lv5] : Array Value) 27) :: O19) [] := MM200
    have hT_23 := hT_12.mono hs22
    have hz24 : ∀ x ∈ O, x ∈ O19 := fun x hx => hs22 x (hs11 x hx)
    refine rg_part 6 FF17 MM20 [u_ 1 (.tuple #[.int .u64 (lowN n : Nat), .bool (decide (n < 18446744073709551616))]), o_, t_ (.int .u64 (n : Nat)), t_ (.bool true), o_, o_] [8, 7, 6, 0, 1, 2, 9, 10] (fun Kt => CallP Tryd.prog 11 [.agg (#[nv n lv16] : Array Value)] ((ba, .cells (#[nv (leV X) lv5] : Array Value) 27) :: O19) (.tuple #[.int .u64 (lowN n : Nat), .bool (decide (n < 18446744073709551616))]) ∧ Value.int .u64 (lowN n : Nat) = .int .u64 (n : Nat) ∧ Value.bool (decide (n < 18446744073709551616)) = .bool true ∧ Kt [(10, .bool true), (9, .int .u64 (n : Nat)), (8, .int .i64 (bsz (leV X) : Nat)), (7, .pointer (some ⟨ba, 0, none⟩)), (6, .bool false), (0, .string (bs X)), (1, .int .u8 (k : Nat)), (2, .int .u64 (n : Nat))] ((ba, .cells (#[nv (leV X) lv5] : Array Value) 27) :: O19)) (by kernel_rfl) (fun _ => by kernel_rfl) (⟨⟨en_nlow, fun w Hw => nlow_any n lv16 w ((hN21.get 0 rfl).at (Has.tl Hw))⟩, (vI (low_same hn)), (dec_t hn), fun ac25 wd25 FF25 MM25 => ?_⟩)
    refine wpl_nil (then_n ?_)
    refine wp_seq (wp_region_list ?_)
    refine st_callE [10, 9, 8, 7, 6, 0, 1, 2, 30] FF25 (d := 30) (mk := fun v => .agg #[nv (2) v]) en_nof rfl rfl (nof_any 2 (by decide) _) rfl (by kernel_rfl) (by decide) fun ac27 wd27 lv26 (FF27 : Fr 89 ac27 [(30, .agg (#[nv 2 lv26] : Array Value)), (10, .bool true), (9, .int .u64 (n : Nat)), (8, .int .i64 (bsz (leV X) : Nat)), (7, .pointer (some ⟨ba, 0, none⟩)), (6, .bool false), (0, .string (bs X)), (1, .int .u8 (k : Nat)), (2, .int .u64 (n : Nat))]) hr28 => ?_
    obtain ⟨O29, MM300, hN31, hs32⟩ := MemS.addNats (K := [(ba, .cells (#[nv (leV X) lv5] : Array Value) 27)]) (O := O19) MM25 hr28.1 hr28.2 hN21
    have MM30 : MemS (fun k => k < w0.heap.size ∧ ∀ x ∈ O, x.1 ≠ k) w0 wd27 ((ba, .cells (#[nv (leV X) lv5] : Array Value) 27) :: O29) [] := MM300
    have hT_33 := hT_23.mono hs32
    have hz34 : ∀ x ∈ O, x ∈ O29 := fun x hx => hs32 x (hz24 x hx)
    refine rg_part 1 FF27 MM30 [o_] [30, 10, 9, 8, 7, 6, 0, 1, 2, 31] (fun Kt => Kt [(31, .int .i64 (bsz (leV X) : Nat)), (30, .agg (#[nv 2 lv26] : Array Value)), (10, .bool true), (9, .int .u64 (n : Nat)), (8, .int .i64 (bsz (leV X) : Nat)), (7, .pointer (some ⟨ba, 0, none⟩)), (6, .bool false), (0, .string (bs X)), (1, .int .u8 (k : Nat)), (2, .int .u64 (n : Nat))] ((ba, .cells (#[nv (leV X) lv5] : Array Value) 27) :: O29)) (by kernel_rfl) (fun _ => by kernel_rfl) (fun ac35 wd35 FF35 MM35 => ?_)
    refine st_callE [10, 9, 8, 7, 6, 0, 1, 2, 32] FF35 (d := 32) (mk := fun v => .tuple #[.agg #[nv (2 ^ (bsz (leV X))) v], .int .i64 (0 : Nat)]) en_npow rfl rfl (npow_ok 2 lv26 (qok4 (by decide +kernel)) (bsz (leV X)) (pow2ok hb) (by omega) _ ((hN31.get 0 rfl).at (Has.tl MM35.hasL))) rfl (by kernel_rfl) (by decide) fun ac37 wd37 lv36 (FF37 : Fr 89 ac37 [(32, .tuple #[.agg (#[nv (2 ^ (bsz (leV X))) lv36] : Array Value), .int .i64 (0 : Nat)]), (10, .bool true), (9, .int .u64 (n : Nat)), (8, .int .i64 (bsz (leV X) : Nat)), (7, .pointer (some ⟨ba, 0, none⟩)), (6, .bool false), (0, .string (bs X)), (1, .int .u8 (k : Nat)), (2, .int .u64 (n : Nat))]) hr38 => ?_
    obtain ⟨O39, MM400, hN41, hs42⟩ := MemS.addNats (K := [(ba, .cells (#[nv (leV X) lv5] : Array Value) 27)]) (O := O29) MM35 hr38.1 hr38.2 hN31
    have MM40 : MemS (fun k => k < w0.heap.size ∧ ∀ x ∈ O, x.1 ≠ k) w0 wd37 ((ba, .cells (#[nv (leV X) lv5] : Array Value) 27) :: O39) [] := MM400
    have hT_43 := hT_33.mono hs42
    have hz44 : ∀ x ∈ O, x ∈ O39 := fun x hx => hs42 x (hz34 x hx)
    refine rg_part 6 FF37 MM40 [o_, o_, o_, o_, b_ 0, o_] [10, 9, 8, 7, 6, 0, 1, 2, 11, 12] (fun Kt => ∀ bt, bt = bt ∧ (#[.slice none 0 0] : Array Value).size = 1 ∧ (#[nv (2 ^ (bsz (leV X))) lv36] : Array Value).size = 1 ∧ (#[nv (2 ^ (bsz (leV X))) lv36] : Array Value).all (·.oneCell') = true ∧ (0, 0).2 = 0 ∧ Kt [(12, .int .i64 (0 : Nat)), (11, .pointer (some ⟨bt, 0, none⟩)), (10, .bool true), (9, .int .u64 (n : Nat)), (8, .int .i64 (bsz (leV X) : Nat)), (7, .pointer (some ⟨ba, 0, none⟩)), (6, .bool false), (0, .string (bs X)), (1, .int .u8 (k : Nat)), (2, .int .u64 (n : Nat))] ((bt, .cells (#[nv (2 ^ (bsz (leV X))) lv36] : Array Value) 27) :: (ba, .cells (#[nv (leV X) lv5] : Array Value) 27) :: O39)) (by kernel_rfl) (fun _ => by kernel_rfl) (fun bt => ⟨rfl, rfl, rfl, (by kernel_rfl), rfl, fun ac45 wd45 FF45 MM45 => ?_⟩)
    refine wpl_nil (then_n ?_)
    refine wp_seq ?_
    refine wp_seq (rg_pred FF45 MM45 [.inl (.int .i64 (0 : Nat)), .inl (.bool false), .inl (.bool false), .inl (.agg (#[nv (leV X) lv5] : Array Value)), .inl (.agg (#[nv (2 ^ (bsz (leV X))) lv36] : Array Value)), .inl (.int .i64 (cmpN (leV X) (2 ^ (bsz (leV X))) : Int)), .inl (.bool false), .inl (.bool false), .inl (.bool false), .inl (.string (bs X)), .inl (.int .u8 (k : Nat)), (.inr (fun v => .slice (pOf v) k k, fun v w => ZIn w (pOf v) k 5) : Spec), .inl (.string (bs (List.replicate k 0))), .inl (.string (bs (X ++ (List.replicate k 0)))), (.inr (fun v => .agg #[nv (leV X) v], fun v w => NatNew wd45.heap.size w (nv (leV X) v) (leV X)) : Spec), .inl (.agg (#[nv (leV X) lv5] : Array Value)), (.inr (fun _ => .int .i64 ((0 : Nat) : Int), fun v w => True) : Spec), .inl (.bool false), .inl (.bool false), .inl (.bool false), .inl (.int .u64 (n : Nat)), .inl (.int .u64 (n : Nat)), .inl (.bool false), .inl (.bool false), .inl (.bool false), .inl (.bool true), .inl (.bool false), .inl (.bool false)] [some (o_), some (w_ 3), some (o_), some (b_ 1), some (b_ 0), some (u_ 1 (.int .i64 (cmpN (leV X) (2 ^ (bsz (leV X))) : Int))), some (u_ 4 (.bool false)), some (o_), some (o_), some (o_), some (o_), some (n_ (.slice none k k) (.cells (cn .u8 (List.replicate k 0)) 5)), none, some (t_ (.string (bs (X ++ (List.replicate k 0))))), none, some (b_ 1), none, some (w_ 3), some (o_), some (o_), some (o_), some (o_), some (w_ 3), some (o_), some (o_), some (o_), some (o_), some (o_)] [62, 11, 8, 7, 6, 0, 2] (fun lx wq => [(Value.int .i64 (0 : Nat) = .int .i64 (0 : Nat)), (¬ (0 ≠ 0) ∧ Value.bool false = .bool false), (Value.bool false = .bool false), (ba = ba ∧ (#[nv (leV X) lv5] : Array Value).size = 1 ∧ Value.agg (#[nv (leV X) lv5] : Array Value) = .agg (#[nv (leV X) lv5] : Array Value)), (bt = bt ∧ (#[nv (2 ^ (bsz (leV X))) lv36] : Array Value).size = 1 ∧ Value.agg (#[nv (2 ^ (bsz (leV X))) lv36] : Array Value) = .agg (#[nv (2 ^ (bsz (leV X))) lv36] : Array Value)), (CallP Tryd.prog 17 [.agg (#[nv (leV X) lv5] : Array Value), .agg (#[nv (2 ^ (bsz (leV X))) lv36] : Array Value)] ((bt, .cells (#[nv (2 ^ (bsz (leV X))) lv36] : Array Value) 27) :: (ba, .cells (#[nv (leV X) lv5] : Array Value) 27) :: O39) (.int .i64 (cmpN (leV X) (2 ^ (bsz (leV X))) : Int)) ∧ Value.int .i64 (cmpN (leV X) (2 ^ (bsz (leV X))) : Int) = .int .i64 (cmpN (leV X) (2 ^ (bsz (leV X))) : Int)), (Value.bool (decide ((cmpN (leV X) (2 ^ (bsz (leV X)))) ≥ ((0 : Nat) : Int))) = .bool false ∧ Value.bool false = .bool false), (Value.bool false = .bool false), (Value.bool false = .bool false), (Value.string (bs X) = .string (bs X)), (Value.int .u8 (k : Nat) = .int .u8 (k : Nat)), (RunN Tryd.prog [(45, .int .u8 (k : Nat)), (45, .int .u8 (k : Nat)), (43, .bool false), (12, .int .i64 (0 : Nat)), (11, .pointer (some ⟨bt, 0, none⟩)), (10, .bool true), (9, .int .u64 (n : Nat)), (8, .int .i64 (bsz (leV X) : Nat)), (7, .pointer (some ⟨ba, 0, none⟩)), (6, .bool false), (0, .string (bs X)), (1, .int .u8 (k : Nat)), (2, .int .u64 (n : Nat))] ((bt, .cells (#[nv (2 ^ (bsz (leV X))) lv36] : Array Value) 27) :: (ba, .cells (#[nv (leV X) lv5] : Array Value) 27) :: O39) (opAt Tryd.f7 7 11) (mkOf (.slice none k k)) (.cells (cn .u8 (List.replicate k 0)) 5) ∧ (∀ w', Below wq.heap.size wq w' → w'.heap[wq.heap.size]? = some (.cells (cn .u8 (List.replicate k 0)) 5) → ∃ y, Value.slice (some ⟨wq.heap.size, 0, none⟩) k k = (fun v => .slice (pOf v) k k) y ∧ ZIn w' (pOf y) k 5)), (ZIn wq (pOf (lx 11)) k 5 → RunW Tryd.prog [(46, .slice (pOf (lx 11)) k k), (43, .bool false), (12, .int .i64 (0 : Nat)), (11, .pointer (some ⟨bt, 0, none⟩)), (10, .bool true), (9, .int .u64 (n : Nat)), (8, .int .i64 (bsz (leV X) : Nat)), (7, .pointer (some ⟨ba, 0, none⟩)), (6, .bool false), (0, .string (bs X)), (1, .int .u8 (k : Nat)), (2, .int .u64 (n : Nat))] (opAt Tryd.f7 7 12) (.string (bs (List.replicate k 0))) wq), ((bs X).size + (bs (List.replicate k 0)).size ≤ 9223372036854775807 ∧ Value.string (bs X ++ bs (List.replicate k 0)) = .string (bs (X ++ (List.replicate k 0))) ∧ Value.string (bs (X ++ (List.replicate k 0))) = .string (bs (X ++ (List.replicate k 0)))), (CallQ Tryd.prog 9 [.string (bs (X ++ (List.replicate k 0)))] wq (.inr (fun v => .agg #[nv (leV X) v], fun v w => NatNew wd45.heap.size w (nv (leV X) v) (leV X)) : Spec)), (ba = ba ∧ (#[nv (leV X) lv5] : Array Value).size = 1 ∧ Value.agg (#[nv (leV X) lv5] : Array Value) = .agg (#[nv (leV X) lv5] : Array Value)), (NatNew wd45.heap.size wq (nv (leV X) (lx 14)) (leV X) → NatNew wd45.heap.size wq (nv (leV X) (lx 14)) (leV X) → CallQ Tryd.prog 17 [.agg (#[nv (leV X) (lx 14)] : Array Value), .agg (#[nv (leV X) lv5] : Array Value)] wq (.inr (fun _ => .int .i64 ((0 : Nat) : Int), fun v w => True) : Spec)), (True → ¬ (0 ≠ 0) ∧ Value.bool false = .bool false), (Value.bool false = .bool false), (True → Value.bool false = .bool false), (Value.int .u64 (n : Nat) = .int .u64 (n : Nat)), (Value.int .u64 (n : Nat) = .int .u64 (n : Nat)), (¬ (n ≠ n) ∧ Value.bool false = .bool false), (Value.bool false = .bool false), (Value.bool false = .bool false), (Value.bool true = .bool true), (Value.bool false = .bool false), (Value.bool false = .bool false)]) (fun lx => [(62, .bool false), (11, .pointer (some ⟨bt, 0, none⟩)), (8, .int .i64 (bsz (leV X) : Nat)), (7, .pointer (some ⟨ba, 0, none⟩)), (6, .bool false), (0, .string (bs X)), (2, .int .u64 (n : Nat))]) (by kernel_rfl) (by kernel_rfl) (by kernel_rfl) ⟨(zin_st k 5), (fun v w w1 => natNew_st _ _ (nv _ v) w w1), (fun _ _ _ _ _ => trivial), trivial⟩ (fun _ _ => by kernel_rfl) (fun _ => by kernel_rfl) (fun lx wq hB9 hH9 => ⟨(rfl), (⟨(by decide), rfl⟩), (rfl), (⟨rfl, rfl, rfl⟩), (⟨rfl, rfl, rfl⟩), (⟨⟨en_ncmp, fun w Hw => ncmp_any (leV X) lv5 (qok hB) (2 ^ (bsz (leV X))) lv36 w ((hN41.get 3 rfl).at (Has.tl (Has.tl Hw))) ((hN41.get 0 rfl).at (Has.tl (Has.tl Hw)))⟩, rfl⟩), (⟨(dec_f (cmp_lt0 (bsz_ok _).1)), rfl⟩), (rfl), (rfl), (rfl), (rfl), (⟨(make_ok (t := 59) (e := 5) (p := (.tmp 45)) (q := (.tmp 45)) (by kernel_rfl) rfl rfl Tryd.underlying59 (by kernel_rfl) (by omega)), fun w' _ hb => ⟨.slice (some ⟨wq.heap.size, 0, none⟩) k k, rfl, _, rfl, hb⟩⟩), (fun h11_0 => (zin_run (x := .tmp 46) h11_0 (by kernel_rfl) rfl Tryd.underlying59 Tryd.underlying5 Tryd.underlying9)), (⟨(by simp only [bs_size, List.length_replicate]; omega), (vS2 (bs_app _ _)), rfl⟩), (⟨en_nbytes, by have h7 := nbytes_any (X ++ List.replicate k 0) (app_lt8 hX rep0_lt) (by rw [List.length_append, List.length_replicate]; omega) wq; rw [leV_pad] at h7; exact h7.mono fun _ _ ⟨v, h1, h2, h3⟩ => ⟨v, h1, h2, h3.mono hB9.size⟩⟩), (⟨rfl, rfl, rfl⟩), (fun h14_0 h14_1 => ⟨en_ncmp, (ncmp_any (leV X) (lx 14) (qok hB) (leV X) lv5 wq h14_1.1 ((hN41.get 3 rfl).at (Has.tl (Has.tl hH9)))).mono fun _ _ ⟨h1, h2⟩ => ⟨undef, h1.trans (by rw [cmp_self]; rfl), h2, trivial⟩⟩), (fun h16_0 => ⟨(by decide), rfl⟩), (rfl), (fun h16_0 => rfl), (rfl), (rfl), (⟨(by omega), rfl⟩), (rfl), (rfl), (rfl), (rfl), (rfl), trivial⟩) (fun lx ac46 wd46 hx47 hB48 FF46 MM46 => ?_))
    obtain ⟨hl11, hl14, hl16, -⟩ := hx47
    generalize lx 11 = lv49 at *
    generalize lx 14 = lv50 at *
    generalize lx 16 = lv51 at *
    refine wpl_nil (then_n ?_)
    refine wp_cond_false (FF46.ev 0 rfl) ?_
    refine wp_skip ?_
    refine then_n ?_
    refine wp_seq ?_
    refine wp_seq (rg_seq FF46 MM46 [o_, o_] [11, 8, 7, 6, 0, 2, 64] (fun Kt => Kt [(64, .bool (decide ((bsz (leV X)) = 0))), (11, .pointer (some ⟨bt, 0, none⟩)), (8, .int .i64 (bsz (leV X) : Nat)), (7, .pointer (some ⟨ba, 0, none⟩)), (6, .bool false), (0, .string (bs X)), (2, .int .u64 (n : Nat))] ((bt, .cells (#[nv (2 ^ (bsz (leV X))) lv36] : Array Value) 27) :: (ba, .cells (#[nv (leV X) lv5] : Array Value) 27) :: O39)) (by kernel_rfl) (fun _ => by kernel_rfl) (fun ac52 wd52 FF52 MM52 => then_n ?_))
    by_cases hs64 : (bsz (leV X)) = 0
    · refine wp_cond_true ((FF52.ev 0 rfl).trans (dec_t hs64)) ?_
      refine wp_seq (rg_seq FF52 MM52 [b_ 1, u_ 1 (.string (bs (decN (leV X)))), w_ 2, o_, u_ 1 (.bool true), o_, o_] [11, 8, 7, 6, 0, 2] (fun Kt => ba = ba ∧ (#[nv (leV X) lv5] : Array Value).size = 1 ∧ CallP Tryd.prog 13 [.agg (#[nv (leV X) lv5] : Array Value)] ((bt, .cells (#[nv (2 ^ (bsz (leV X))) lv36] : Array Value) 27) :: (ba, .cells (#[nv (leV X) lv5] : Array Value) 27) :: O39) (.string (bs (decN (leV X)))) ∧ bs (decN (leV X)) = bs [48] ∧ CallP Tryd.prog 8 [] ((bt, .cells (#[nv (2 ^ (bsz (leV X))) lv36] : Array Value) 27) :: (ba, .cells (#[nv (leV X) lv5] : Array Value) 27) :: O39) (.bool true) ∧ Kt [(6, .bool true), (11, .pointer (some ⟨bt, 0, none⟩)), (8, .int .i64 (bsz (leV X) : Nat)), (7, .pointer (some ⟨ba, 0, none⟩)), (0, .string (bs X)), (2, .int .u64 (n : Nat))] ((bt, .cells (#[nv (2 ^ (bsz (leV X))) lv36] : Array Value) 27) :: (ba, .cells (#[nv (leV X) lv5] : Array Value) 27) :: O39)) (by kernel_rfl) (fun _ => by kernel_rfl) (⟨rfl, rfl, ⟨en_ntext, fun w Hw => ntext_any (leV X) lv5 (qok hB) w (hT_43.at (Has.tl (Has.tl Hw))) ((hN41.get 3 rfl).at (Has.tl (Has.tl Hw)))⟩, (congrArg bs (by rw [bz0 hs64]; rfl)), ⟨en_wakes, fun w Hw => wakes_w w (hT_43.at (Has.tl (Has.tl Hw)))⟩, fun ac53 wd53 FF53 MM53 => then_n ?_⟩))
      refine wp_ret ?_
      repeat first | refine then_ret ?_ | refine inb_ret ?_
      exact (ret_fr FF53 0 Tryd.results7 rfl ⟨rfl, MM53.belowN H (fun _ hx => List.mem_cons_of_mem _ (List.mem_cons_of_mem _ (hz44 _ hx)))⟩)
    · refine wp_cond_false ((FF52.ev 0 rfl).trans (dec_f hs64)) ?_
      refine wp_skip ?_
      refine then_n ?_
      refine wp_seq (wp_region_list ?_)
      refine st_callE [11, 8, 7, 6, 0, 2, 72] FF52 (d := 72) (mk := fun v => .agg #[nv (2) v]) en_nof rfl rfl (nof_any 2 (by decide) _) rfl (by kernel_rfl) (by decide) fun ac55 wd55 lv54 (FF55 : Fr 89 ac55 [(72, .agg (#[nv 2 lv54] : Array Value)), (11, .pointer (some ⟨bt, 0, none⟩)), (8, .int .i64 (bsz (leV X) : Nat)), (7, .pointer (some ⟨ba, 0, none⟩)), (6, .bool false), (0, .string (bs X)), (2, .int .u64 (n : Nat))]) hr56 => ?_
      obtain ⟨O57, MM580, hN59, hs60⟩ := MemS.addNats (K := [(bt, .cells (#[nv (2 ^ (bsz (leV X))) lv36] : Array Value) 27), (ba, .cells (#[nv (leV X) lv5] : Array Value) 27)]) (O := O39) MM52 hr56.1 hr56.2 hN41
      have MM58 : MemS (fun k => k < w0.heap.size ∧ ∀ x ∈ O, x.1 ≠ k) w0 wd55 ((bt, .cells (#[nv (2 ^ (bsz (leV X))) lv36] : Array Value) 27) :: (ba, .cells (#[nv (leV X) lv5] : Array Value) 27) :: O57) [] := MM580
      have hT_61 := hT_43.mono hs60
      have hz62 : ∀ x ∈ O, x ∈ O57 := fun x hx => hs60 x (hz44 x hx)
      refine rg_part 2 FF55 MM58 [o_, o_] [72, 11, 8, 7, 6, 0, 2, 74] (fun Kt => 1 ≤ (bsz (leV X)) ∧ (bsz (leV X)) - 1 < 9223372036854775808 ∧ Kt [(74, .int .i64 ((bsz (leV X)) - 1 : Nat)), (72, .agg (#[nv 2 lv54] : Array Value)), (11, .pointer (some ⟨bt, 0, none⟩)), (8, .int .i64 (bsz (leV X) : Nat)), (7, .pointer (some ⟨ba, 0, none⟩)), (6, .bool false), (0, .string (bs X)), (2, .int .u64 (n : Nat))] ((bt, .cells (#[nv (2 ^ (bsz (leV X))) lv36] : Array Value) 27) :: (ba, .cells (#[nv (leV X) lv5] : Array Value) 27) :: O57)) (by kernel_rfl) (fun _ => by kernel_rfl) (⟨(by omega), (by omega), fun ac63 wd63 FF63 MM63 => ?_⟩)
      refine st_callE [11, 8, 7, 6, 0, 2, 75] FF63 (d := 75) (mk := fun v => .tuple #[.agg #[nv (2 ^ ((bsz (leV X)) - 1)) v], .int .i64 (0 : Nat)]) en_npow rfl rfl (npow_ok 2 lv54 (qok4 (by decide +kernel)) ((bsz (leV X)) - 1) (pow2ok (by omega)) (by omega) _ ((hN59.get 0 rfl).at (Has.tl (Has.tl MM63.hasL)))) rfl (by kernel_rfl) (by decide) fun ac65 wd65 lv64 (FF65 : Fr 89 ac65 [(75, .tuple #[.agg (#[nv (2 ^ ((bsz (leV X)) - 1)) lv64] : Array Value), .int .i64 (0 : Nat)]), (11, .pointer (some ⟨bt, 0, none⟩)), (8, .int .i64 (bsz (leV X) : Nat)), (7, .pointer (some ⟨ba, 0, none⟩)), (6, .bool false), (0, .string (bs X)), (2, .int .u64 (n : Nat))]) hr66 => ?_
      obtain ⟨O67, MM680, hN69, hs70⟩ := MemS.addNats (K := [(bt, .cells (#[nv (2 ^ (bsz (leV X))) lv36] : Array Value) 27), (ba, .cells (#[nv (leV X) lv5] : Array Value) 27)]) (O := O57) MM63 hr66.1 hr66.2 hN59
      have MM68 : MemS (fun k => k < w0.heap.size ∧ ∀ x ∈ O, x.1 ≠ k) w0 wd65 ((bt, .cells (#[nv (2 ^ (bsz (leV X))) lv36] : Array Value) 27) :: (ba, .cells (#[nv (leV X) lv5] : Array Value) 27) :: O67) [] := MM680
      have hT_71 := hT_61.mono hs70
      have hz72 : ∀ x ∈ O, x ∈ O67 := fun x hx => hs70 x (hz62 x hx)
      refine rg_part 6 FF65 MM68 [o_, o_, o_, o_, b_ 0, o_] [11, 8, 7, 6, 0, 2, 13, 14] (fun Kt => ∀ bh, bh = bh ∧ (#[.slice none 0 0] : Array Value).size = 1 ∧ (#[nv (2 ^ ((bsz (leV X)) - 1)) lv64] : Array Value).size = 1 ∧ (#[nv (2 ^ ((bsz (leV X)) - 1)) lv64] : Array Value).all (·.oneCell') = true ∧ (0, 0).2 = 0 ∧ Kt [(14, .int .i64 (0 : Nat)), (13, .pointer (some ⟨bh, 0, none⟩)), (11, .pointer (some ⟨bt, 0, none⟩)), (8, .int .i64 (bsz (leV X) : Nat)), (7, .pointer (some ⟨ba, 0, none⟩)), (6, .bool false), (0, .string (bs X)), (2, .int .u64 (n : Nat))] ((bh, .cells (#[nv (2 ^ ((bsz (leV X)) - 1)) lv64] : Array Value) 27) :: (bt, .cells (#[nv (2 ^ (bsz (leV X))) lv36] : Array Value) 27) :: (ba, .cells (#[nv (leV X) lv5] : Array Value) 27) :: O67)) (by kernel_rfl) (fun _ => by kernel_rfl) (fun bh => ⟨rfl, rfl, rfl, (by kernel_rfl), rfl, fun ac73 wd73 FF73 MM73 => ?_⟩)
      refine wpl_nil (then_n ?_)
      refine wp_seq (rg_seq FF73 MM73 [o_, w_ 2, o_, b_ 2, b_ 0, u_ 1 (.int .i64 (cmpN (leV X) (2 ^ ((bsz (leV X)) - 1)) : Int)), u_ 4 (.bool true), o_, o_, u_ 1 (.bool true), o_, o_] [13, 11, 8, 7, 6, 0, 2] (fun Kt => 0 = 0 ∧ ba = ba ∧ (#[nv (leV X) lv5] : Array Value).size = 1 ∧ bh = bh ∧ (#[nv (2 ^ ((bsz (leV X)) - 1)) lv64] : Array Value).size = 1 ∧ CallP Tryd.prog 17 [.agg (#[nv (leV X) lv5] : Array Value), .agg (#[nv (2 ^ ((bsz (leV X)) - 1)) lv64] : Array Value)] ((bh, .cells (#[nv (2 ^ ((bsz (leV X)) - 1)) lv64] : Array Value) 27) :: (bt, .cells (#[nv (2 ^ (bsz (leV X))) lv36] : Array Value) 27) :: (ba, .cells (#[nv (leV X) lv5] : Array Value) 27) :: O67) (.int .i64 (cmpN (leV X) (2 ^ ((bsz (leV X)) - 1)) : Int)) ∧ Value.bool (decide ((cmpN (leV X) (2 ^ ((bsz (leV X)) - 1))) ≥ ((0 : Nat) : Int))) = .bool true ∧ CallP Tryd.prog 8 [] ((bh, .cells (#[nv (2 ^ ((bsz (leV X)) - 1)) lv64] : Array Value) 27) :: (bt, .cells (#[nv (2 ^ (bsz (leV X))) lv36] : Array Value) 27) :: (ba, .cells (#[nv (leV X) lv5] : Array Value) 27) :: O67) (.bool true) ∧ Kt [(6, .bool true), (13, .pointer (some ⟨bh, 0, none⟩)), (11, .pointer (some ⟨bt, 0, none⟩)), (8, .int .i64 (bsz (leV X) : Nat)), (7, .pointer (some ⟨ba, 0, none⟩)), (0, .string (bs X)), (2, .int .u64 (n : Nat))] ((bh, .cells (#[nv (2 ^ ((bsz (leV X)) - 1)) lv64] : Array Value) 27) :: (bt, .cells (#[nv (2 ^ (bsz (leV X))) lv36] : Array Value) 27) :: (ba, .cells (#[nv (leV X) lv5] : Array Value) 27) :: O67)) (by kernel_rfl) (fun _ => by kernel_rfl) (⟨(by decide), rfl, rfl, rfl, rfl, ⟨en_ncmp, fun w Hw => ncmp_any (leV X) lv5 (qok hB) (2 ^ ((bsz (leV X)) - 1)) lv64 w ((hN69.get 5 rfl).at (Has.tl (Has.tl (Has.tl Hw)))) ((hN69.get 0 rfl).at (Has.tl (Has.tl (Has.tl Hw))))⟩, (dec_t (cmp_ge0 ((bsz_ok _).2.resolve_left hs64))), ⟨en_wakes, fun w Hw => wakes_w w (hT_71.at (Has.tl (Has.tl (Has.tl Hw))))⟩, fun ac74 wd74 FF74 MM74 => then_n ?_⟩))
      refine wp_ret ?_
      repeat first | refine then_ret ?_ | refine inb_ret ?_
      exact (ret_fr FF74 0 Tryd.results7 rfl ⟨rfl, MM74.belowN H (fun _ hx => List.mem_cons_of_mem _ (List.mem_cons_of_mem _ (List.mem_cons_of_mem _ (hz72 _ hx))))⟩)

end Go.Proofs.YtcannnmpemnklaaDoor
namespace Go.Proofs.YtcannnmpemnklaaDoor
open Go.RowKit

def pw10 : List Nat := [1, 10, 100, 1000, 10000, 100000, 1000000, 10000000, 100000000, 1000000000, 10000000000, 100000000000, 1000000000000, 10000000000000, 100000000000000, 1000000000000000, 10000000000000000, 100000000000000000, 1000000000000000000, 10000000000000000000]
theorem pw10_at : ∀ i : Fin 20, pw10[i.val]? = some (10 ^ i.val) := by decide +kernel
theorem tab_in {w : World} {T : TypeId} {fr : Nat × Nat} (h : w.heap[2]? = some (.cells (cn .u64 pw10) T fr)) : TabIn w := .inr ⟨2, _, T, fr, rfl, h, fun j hj => by
  have := pw10_at ⟨j, hj⟩
  simp [cn, this]⟩

end Go.Proofs.YtcannnmpemnklaaDoor
namespace Go.Proofs.YtcannnmpemnklaaDoor
open Go.ChangeShapes Go.WideShapes Go.ChangeAt Go.RowKit

theorem Tryd.own : ownKnob Tryd.prog.godebug = Option.none := by kernel_rfl
theorem Tryd.laidOut : laidOutB Tryd.prog = true := by kernel_rfl

section
variable {H : Type} {enc : TypeId × Value → H} {P : Program}

theorem trodAll_below (hl : laidOutB P = true) {W W' : World} (hb : Below W.heap.size W W') : ∀ (ts : List TypeId) (vs : List Value) (ds : List (DataW H)) (ps : List MemPlace), (∀ t ∈ ts, P.readableRec t = true ∧ t < P.types.size) →
    DataW.TrodAll enc P W 0 (fun _ => true) true ts vs ds ps → (∀ x ∈ ps, x.block < W.heap.size) → DataW.TrodAll enc P W' 0 (fun b => decide (b < W.heap.size)) true ts vs ds ps
  | [], [], [], _, _, h, _ => h
  | t :: ts, v :: vs, d :: ds, ps, hr, ⟨p, q, h1, h2, e⟩, hlt => by
    subst e
    obtain ⟨r1, r2⟩ := hr t (by simp)
    exact ⟨p, q, Below.trod hl r1 r2 h1 hb (fun x hx => hlt x (by simp [hx])), trodAll_below hl hb ts vs ds q (fun t ht => hr t (by simp [ht])) h2 (fun x hx => hlt x (by simp [hx])), rfl⟩
  | [], [], _ :: _, _, _, h, _ => h.elim
  | [], _ :: _, _, _, _, h, _ => by cases h
  | _ :: _, [], _, _, _, h, _ => by cases h
  | _ :: _, _ :: _, [], _, _, h, _ => h.elim

/-- What is asked behind a law's walk. -/
theorem post_true {f : Func} {s : ChangeSpec} {W W' : World} {args : Array Value} {ds : List (DataW H)} {before : List MemPlace} {T : TypeId} (hl : laidOutB P = true) (hr : ∀ t ∈ f.params.toList, P.readableRec t = true ∧ t < P.types.size) (hv : s.vars = [])
    (hW : DataW.Whole enc P f.params.toList s.vars false W args.toList ds [] before) (hres : (s.fn H (ds ++ [])).results = [.lit (.bool true)]) (hargs : (s.fn H (ds ++ [])).args = ds) (hvs : (s.fn H (ds ++ [])).vars = [])
    (hT : f.resultTypes = #[T]) (hu : P.underlying T = some .bool) (hb : Below W.heap.size W W') : s.post enc P f false true false false W args (.bool true) W' := by
  have hlt := hW.lt
  have hW' := hW
  obtain ⟨p, q, hA, hV, rfl, _, _⟩ := hW'
  refine ⟨ds, [], p ++ q, [], p, [], hW, ?_, ?_, ?_, hb.frame _, fun h => by cases h⟩
  · rw [hres, hT]
    exact trodAll_cons_mk (shut_bool hu _) rfl
  · rw [hargs]
    exact trodAll_below hl hb _ _ _ _ hr hA (fun x hx => hlt x (by simp [hx]))
  · rw [hvs, hv]
    exact rfl

theorem okWide_arr {w : World} {r : Reach} {base : Nat} {t : TypeId} {v : Value} {n : Nat} {e : TypeId} (ht : P.underlying t = some (.array n e)) (h : Value.okWide P w r base t v) : ∃ cs, v = .agg cs ∧ cs.size = P.cellsOf t := by
  simp only [Value.okWide, ht] at h
  obtain ⟨cs, h1, h2, _⟩ := h
  exact ⟨cs, h1, h2⟩
end

section
variable {H : Type} {enc : TypeId × Value → H} {P : Program}
/-- Bytes that come in within something greater. -/
theorem bytes_in {W : World} {base' : Nat} {spare : Nat → Bool} {held : Bool} {fuel n : Nat} {t e : TypeId} {L : List Value} {x : DataW H × List MemPlace} (hu : P.underlying t = some (.array n e)) (he : P.underlying e = some (.int .u8)) (hc : P.cellsOf e = 1) (hf : DataW.trod enc P W base' spare held fuel t L = some x) :
    ∃ ks : List Nat, Bytes n ks ∧ ∀ (j : Nat) (v : Value), (cn .u8 ks)[j]? = some v → L[j]? = some v := by
  obtain ⟨xs, m, _, _, _, hl, hel⟩ := DataW.trod_array hu hf
  rw [hc] at hel
  have key : ∀ i, i < n → ∃ k : Nat, L[i]? = some (.int .u8 (k : Int)) ∧ k < 256 := fun i hi => by
    have h1 := hel i hi
    have h2 : xs[i]? = some (xs[i]'(by omega)) := by simp
    rw [h2] at h1
    obtain ⟨k, e, _, wf⟩ := DataW.trod_int he h1
    obtain ⟨b0, b1⟩ := bounds_u8 wf
    obtain ⟨k, rfl⟩ := Int.eq_ofNat_of_zero_le b0
    refine ⟨k, ?_, by omega⟩
    rw [Nat.mul_one] at e
    have h3 := congrArg (fun l => l[0]?) e
    simpa using h3
  have hk : ∃ f : Nat → Nat, ∀ i, i < n → L[i]? = some (.int .u8 (f i : Int)) ∧ f i < 256 :=
    ⟨fun i => if h : i < n then (key i h).choose else 0, fun i hi => by simp only [hi, dif_pos]; exact (key i hi).choose_spec⟩
  obtain ⟨f, hf⟩ := hk
  refine ⟨(List.range n).map f, ⟨by simp, fun i => ?_⟩, fun j v hv => ?_⟩
  · rcases Nat.lt_or_ge i n with h | h
    · simp [h]; exact (hf i h).2
    · simp [h]
  · rcases Nat.lt_or_ge j n with h | h
    · rw [(hf j h).1, ← hv, cn_get _ _ _ (by simpa using h)]; simp [h]
    · rw [Array.getElem?_eq_none (by rw [cn_size]; simpa using h)] at hv; cases hv
theorem part_in {ks : List Nat} {cs : Array Value} {k off : Nat} (h : ∀ (j : Nat) (v : Value), (cn .u8 ks)[j]? = some v → (List.take k (List.drop off (Value.agg cs).cells.toList))[j]? = some v) : ∀ (j : Nat) (v : Value), (cn .u8 ks)[j]? = some v → cs[off + j]? = some v := fun j v hv => by
  have := h j v hv
  rw [List.getElem?_take] at this
  split at this
  · simpa [Value.cells] using this
  · cases this
/-- An array of bytes that comes in alone. -/
theorem open_bytes {W : World} {r : Reach} {base base' : Nat} {spare : Nat → Bool} {held : Bool} {v : Value} {d : DataW H} {p : List MemPlace} {t e : TypeId} {n : Nat} (hu : P.underlying t = some (.array n e)) (he : P.underlying e = some (.int .u8)) (hc : P.cellsOf e = 1) (ht : P.cellsOf t = n)
    (hv : Value.okWide P W r base t v) (h : DataW.Trod enc P W base' spare held t v d p) : ∃ ks : List Nat, Bytes n ks ∧ v = .agg (cn .u8 ks) := by
  obtain ⟨cs, rfl, hsz⟩ := okWide_arr hu hv
  rw [ht] at hsz
  obtain ⟨fuel, hf⟩ := h
  obtain ⟨ks, bk, pk⟩ := bytes_in hu he hc hf
  refine ⟨ks, bk, ?_⟩
  congr 1
  refine Array.ext_getElem? fun i => ?_
  rcases Nat.lt_or_ge i n with hi | hi
  · have h1 := cn_get .u8 ks i (by rw [bk.len]; exact hi)
    have h2 := pk i _ h1
    rw [h1]
    simpa [Value.cells] using h2
  · rw [Array.getElem?_eq_none (by omega), Array.getElem?_eq_none (by rw [cn_size, bk.len]; exact hi)]
/-- An array of strings that comes in alone. -/
theorem open_strs {W : World} {r : Reach} {base base' : Nat} {spare : Nat → Bool} {held : Bool} {v : Value} {d : DataW H} {p : List MemPlace} {t e : TypeId} {n : Nat} (hu : P.underlying t = some (.array n e)) (he : P.underlying e = some .string) (hc : P.cellsOf e = 1) (ht : P.cellsOf t = n)
    (hv : Value.okWide P W r base t v) (h : DataW.Trod enc P W base' spare held t v d p) : ∃ Ts : List (List Nat), Ts.length = n ∧ (∀ X ∈ Ts, (∀ i, X.getD i 0 < 256) ∧ X.length ≤ maxLen) ∧ v = .agg (Ts.map fun X => Value.string (bs X)).toArray := by
  obtain ⟨cs, rfl, hsz⟩ := okWide_arr hu hv
  rw [ht] at hsz
  obtain ⟨fuel, hf⟩ := h
  obtain ⟨xs, m, _, _, _, hl, hel⟩ := DataW.trod_array hu hf
  rw [hc] at hel
  have key : ∀ i, i < n → ∃ s : ByteArray, cs[i]? = some (.string s) ∧ s.size ≤ maxLen := fun i hi => by
    have h1 := hel i hi
    have h2 : xs[i]? = some (xs[i]'(by omega)) := by simp
    rw [h2] at h1
    obtain ⟨s, e, _, hm⟩ := DataW.trod_string he h1
    refine ⟨s, ?_, hm⟩
    rw [Nat.mul_one] at e
    have h3 := congrArg (fun l => l[0]?) e
    simpa [Value.cells] using h3
  have hk : ∃ f : Nat → ByteArray, ∀ i, i < n → cs[i]? = some (.string (f i)) ∧ (f i).size ≤ maxLen :=
    ⟨fun i => if h : i < n then (key i h).choose else ByteArray.empty, fun i hi => by simp only [hi, dif_pos]; exact (key i hi).choose_spec⟩
  obtain ⟨f, hf⟩ := hk
  refine ⟨(List.range n).map fun i => nl (f i), by simp, fun X hX => ?_, ?_⟩
  · obtain ⟨i, hi, rfl⟩ := List.mem_map.1 hX
    exact ⟨nl_lt _, by rw [nl_len]; exact (hf i (by simpa using hi)).2⟩
  · congr 1
    refine Array.ext_getElem? fun i => ?_
    rcases Nat.lt_or_ge i n with hi | hi
    · rw [(hf i hi).1]; simp [hi, bs_nl]
    · rw [Array.getElem?_eq_none (by omega), Array.getElem?_eq_none (by simp; omega)]
end
end Go.Proofs.YtcannnmpemnklaaDoor
namespace Go.Proofs.YtcannnmpemnklaaDoor
open Go.ChangeShapes Go.WideShapes Go.ChangeAt Go.RowKit
section
variable {P : Program} {H : Type} {enc : TypeId × Value → H} {W : World} {r : Reach} {base base' : Nat} {spare : Nat → Bool} {held : Bool}
theorem strs_cells {t e : TypeId} {fuel : Nat} {cs0 : List Value} {x : DataW H × List MemPlace} (ht : P.underlying t = some (.slice e)) (he : P.underlying e = some .string) (hc : P.cellsOf e = 1) (hf : DataW.trod enc P W base' spare held fuel t cs0 = some x) :
    ∃ (q : Option Addr) (Ps : List (List Nat)) (c : Nat), cs0 = [.slice q Ps.length c] ∧ (∀ X ∈ Ps, ∀ i, X.getD i 0 < 256) ∧ StrsIn W q Ps ∧ Ps.length ≤ maxLen := by
  rcases Go.ChangeShapes.open_strings ht he hc hf with ⟨e, _⟩ | ⟨a, n, cap, ss, e, hb, hl, hm, hss, hx, hcell, hmax⟩
  · exact ⟨none, [], 0, e, fun X hX => (nomatch hX), .inl rfl, Nat.zero_le _⟩
  · rcases Nat.eq_zero_or_pos n with rfl | hn
    · exact ⟨some a, [], cap, e, fun X hX => (nomatch hX), .inl rfl, Nat.zero_le _⟩
    · have hle : n ≤ ss.length := by rw [hss]; split <;> omega
      have h0 := hcell 0 (by omega)
      rw [show a.add 0 = a from rfl] at h0
      have hsp : a.spot = none ∧ ∃ cs T9 fr, W.heap[a.block]? = some (.cells cs T9 fr) := by
        unfold World.cell? at h0
        split at h0
        · rename_i cs T9 fr hblk
          split at h0
          · cases h0
          · rename_i hs
            exact ⟨by cases hq : a.spot with | none => rfl | some x => (rw [hq] at hs; simp at hs), cs, T9, fr, hblk⟩
        · cases h0
      obtain ⟨hs, cs, T9, fr, hblk⟩ := hsp
      obtain ⟨ab, ao, asp⟩ := a
      simp only at hs hblk
      subst hs
      have hlen : ((ss.take n).map nl).length = n := by simp; omega
      refine ⟨some ⟨ab, ao, none⟩, (ss.take n).map nl, cap, by rw [e, hlen], fun X hX => ?_, .inr ⟨ab, ao, cs, T9, fr, rfl, hblk, fun j hj => ?_⟩, by omega⟩
      · obtain ⟨s, _, rfl⟩ := List.mem_map.1 hX
        exact nl_lt s
      · rw [hlen] at hj
        have := hcell j (by omega)
        rw [add_off, cell_of hblk] at this
        rw [this]
        congr 1
        rw [List.getD_eq_getElem?_getD, List.getD_eq_getElem?_getD, List.getElem?_map, List.getElem?_take, if_pos hj, List.getElem?_eq_getElem (show j < ss.length by omega)]
        simp [bs_nl]
theorem strs_param {t e : TypeId} {v : Value} {d : DataW H} {p : List MemPlace} (ht : P.underlying t = some (.slice e)) (he : P.underlying e = some .string) (hc : P.cellsOf e = 1) (hv : Value.okWide P W r base t v) (h : DataW.Trod enc P W base' spare held t v d p) :
    ∃ (q : Option Addr) (Ps : List (List Nat)) (c : Nat), v = .slice q Ps.length c ∧ (∀ X ∈ Ps, ∀ i, X.getD i 0 < 256) ∧ StrsIn W q Ps ∧ Ps.length ≤ maxLen := by
  obtain ⟨q, n, c, rfl⟩ := okWide_slice ht hv
  obtain ⟨fuel, hf⟩ := h
  obtain ⟨q', Ps, c', e, h1, h2, h3⟩ := strs_cells ht he hc hf
  exact ⟨q', Ps, c', by simpa [Value.cells] using e, h1, h2, h3⟩
end
end Go.Proofs.YtcannnmpemnklaaDoor
namespace Go.Proofs.YtcannnmpemnklaaDoor
open Go.RowKit

theorem laid_mem {P : Program} {W : World} : ∀ (laid : List (String × DataW Unit)) (ps : List MemPlace), DataW.LaidVars P W laid ps → ∀ x ∈ laid, ∃ g t cs fuel p, P.globalNamed x.1 = some g ∧ (P.globals[g]?).map (·.type) = some t ∧ W.var? P x.1 = some cs ∧ DataW.trod (fun _ => ()) P W 0 (fun _ => true) false fuel t cs.toList = some (x.2, p)
  | [], _, _, _, hx => by cases hx
  | (n, d) :: r, ps, h, x, hx => by
    obtain ⟨g, t, cs, fuel, p, q, h1, h2, h3, h4, h5, _⟩ := h
    rcases List.mem_cons.1 hx with rfl | hx
    · exact ⟨g, t, cs, fuel, p, h1, h2, h3, h4⟩
    · exact laid_mem r q h5 x hx
/-- A table of numbers that is laid lies in its block. -/
theorem tab_of {P : Program} {W : World} {laid : List (String × DataW Unit)} {n : String} {D : DataW Unit} {g : Nat} {t e : TypeId} {m : Nat} {k : IntKind} {K : List Nat} (h : laidMetH P laid W) (hH : (laid.all fun x => x.2.handleName?.isNone) = true) (hx : (n, D) ∈ laid)
    (hg : P.globalNamed n = some g) (ht : (P.globals[g]?).map (·.type) = some t) (hu : P.underlying t = some (.array m e)) (he : P.underlying e = some (.int k)) (hc : P.cellsOf e = 1) (hct : P.cellsOf t = m) (hD : D = .agg (K.map fun (x : Nat) => .lit (.int k (x : Int)))) (hK : K.length = m) :
    ∃ T fr, W.heap[g]? = some (.cells (cn k K) T fr) := by
  rw [MakeChecks.laidMetH_plain _ _ _ hH] at h
  obtain ⟨ps, hl, _⟩ := h
  obtain ⟨g', t', cs, fuel, p, h1, h2, h3, h4⟩ := laid_mem laid ps hl _ hx
  obtain rfl := Option.some.inj (hg.symm.trans h1)
  obtain rfl := Option.some.inj (ht.symm.trans h2)
  have hb : ∃ T fr, W.heap[g]? = some (.cells cs T fr) := by
    simp only [World.var?, hg, Option.bind_some] at h3
    split at h3
    · rename_i c T fr hb
      cases h3
      exact ⟨T, fr, hb⟩
    · cases h3
  obtain ⟨T, fr, hb⟩ := hb
  refine ⟨T, fr, ?_⟩
  rw [hb]
  obtain ⟨xs, m1, _, hx1, hlen, hn, hel⟩ := DataW.trod_array hu h4
  have hx2 : D = .agg (xs.map fun x => x.1) := (Prod.mk.inj hx1).1
  rw [hD] at hx2
  have hx3 : (K.map fun (x : Nat) => (DataW.lit (.int k (x : Int)) : DataW Unit)) = xs.map fun x => x.1 := by injection hx2
  have hcs : cs = cn k K := by
    refine Array.ext_getElem? fun i => ?_
    rcases Nat.lt_or_ge i m with hi | hi
    · have e1 := hel i hi
      have e2 : xs[i]? = some (xs[i]'(by omega)) := by simp
      rw [e2, hc] at e1
      obtain ⟨z, e3, e4, _⟩ := DataW.trod_int he e1
      have e5 := congrArg (fun l => l[i]?) hx3
      simp only [List.getElem?_map, e2, e4, List.getElem?_eq_getElem (show i < K.length by omega), Option.map_some, Option.some.injEq, DataW.lit.injEq, Lit.int.injEq] at e5
      have e6 := congrArg (fun l => l[0]?) e3
      rw [Nat.mul_one] at e6
      have e7 : cs[i]? = some (.int k z) := by simpa using e6
      rw [e7, cn_get k K i (by omega), ← e5.2]
      simp [show i < K.length by omega]
    · rw [Array.getElem?_eq_none (by rw [← Array.length_toList, hlen, hct]; exact hi), Array.getElem?_eq_none (by rw [cn_size, hK]; exact hi)]
  rw [hcs]
end Go.Proofs.YtcannnmpemnklaaDoor
