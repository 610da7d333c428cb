/- Several texts in one: Package tape: draws that may not be. The document: numbers as bytes: made, compared. The document: bits. The document's tape: what is taken. The document's tape: numbers under another one. The laws of the tape: what they share. From a walk to a row: a law that returns true and writes nothing that was there; arrays of bytes that come in. Rows that came in and lie anywhere: elements of one or more cells, only read. -/
import Derived.Test.YtdeiodcfblldgaaDoorZ3
import Derived.Test.YtdeiodcfblldgaaDoorRows
import Derived.WalkKit
import Derived.Test.YtdeiodcfblldgaaDoorZ1
import Derived.Below
import Derived.ProofKit
import Derived.OpenShut
import Derived.ChangeOld
import Derived.OrdersHeld
namespace Go.Proofs.YtdeiodcfblldgaaDoor
open Go.RowKit
set_option maxRecDepth 100000 in
theorem tunder_zeroO (O : Blks) (hD : Distinct O) (g : Nat) (N : Nat) (y : Value) (hN : NatO O (nv N y) N) (hs : qsz N < 1000000) (t : Int) (hz : bsz N < 1)  (w0 : World) (H : Has w0 O) :
    Calls Tryd.prog 19 #[pT g, .agg #[nv N y], .int .i64 t] w0 fun e w' => e = .returned (.tuple #[.agg #[.slice none 0 0], iN 1]) ∧ Below w0.heap.size w0 w' := by
  refine enter_fr Tryd.func19 rfl Tryd.ntmps19 (by simp) fun ac (FF : Fr 41 ac [(0, pT g), (1, aG #[nv N y]), (2, .int .i64 (t : Int))]) => ?_
  have MM : MemS (fun k => k < w0.heap.size ∧ ∀ x ∈ O, x.1 ≠ k) w0 w0 O [] := MemS.startN H hD
  refine wp_seq (rg_seq FF MM [o_, o_, o_] [0, 2, 4, 6, 7] (fun Kt => ∀ bw, ∀ br, Kt [(7, iN 0), (6, pT br), (4, pT bw), (0, pT g), (2, .int .i64 (t : Int))] ((br, oC #[.slice none 0 0] 49) :: (bw, oC #[nv N y] 49) :: O)) (by kernel_rfl) (fun _ => by kernel_rfl) (fun bw => fun br => fun ac1 wd1 FF1 MM1 => then_n ?_))
  refine wp_seq (rg_seq FF1 MM1 [b_ 1, u_ 1 (iN (bsz N)), o_] [7, 6, 4, 0, 2, 8] (fun Kt => bw = bw ∧ (#[nv N y] : Array Value).size = 1 ∧ CallP Tryd.prog 26 [aG #[nv N y]] ((br, oC #[.slice none 0 0] 49) :: (bw, oC #[nv N y] 49) :: O) (iN (bsz N)) ∧ Kt [(8, iN (bsz N)), (7, iN 0), (6, pT br), (4, pT bw), (0, pT g), (2, .int .i64 (t : Int))] ((br, oC #[.slice none 0 0] 49) :: (bw, oC #[nv N y] 49) :: O)) (by kernel_rfl) (fun _ => by kernel_rfl) (⟨rfl, rfl, ⟨en_nbits, fun w Hw => nbits_any N y hs w (hN.at (Has.tl (Has.tl Hw)))⟩, fun ac2 wd2 FF2 MM2 => then_n ?_⟩))
  refine wp_seq ?_
  refine wp_seq (rg_seq FF2 MM2 [o_, f_ (.bool false), o_, o_, w_ 2, o_, o_, o_, o_, o_, o_, o_, o_, o_, o_] [8, 7, 6, 4, 0, 2, 26] (fun Kt => RunV Tryd.prog [(12, pT g), (8, iN (bsz N)), (7, iN 0), (6, pT br), (4, pT bw), (0, pT g), (2, .int .i64 (t : Int))] ((br, oC #[.slice none 0 0] 49) :: (bw, oC #[nv N y] 49) :: O) (opAt Tryd.f19 2 1) (.bool false) ∧ (bsz N) < 1 ∧ Kt [(26, .bool true), (8, iN (bsz N)), (7, iN 0), (6, pT br), (4, pT bw), (0, pT g), (2, .int .i64 (t : Int))] ((br, oC #[.slice none 0 0] 49) :: (bw, oC #[nv N y] 49) :: O)) (by kernel_rfl) (fun _ => by kernel_rfl) (⟨(ptrSome_ok (t := 25) (t' := 25) (x := (.tmp 12)) (y := (.const (.pointer none))) (by kernel_rfl) rfl rfl Tryd.underlying25), hz, fun ac3 wd3 FF3 MM3 => then_n ?_⟩))
  refine wp_cond_true (FF3.ev 0 rfl) ?_
  refine wp_seq (rg_seq FF3 MM3 [o_, b_ 0, o_] [8, 7, 6, 4, 0, 2] (fun Kt => br = br ∧ (#[.slice none 0 0] : Array Value).size = 1 ∧ (#[.slice none 0 0] : Array Value).size = 1 ∧ (#[.slice none 0 0] : Array Value).all (·.oneCell') = true ∧ (0, 0).2 = 0 ∧ Kt [(7, iN 1), (8, iN (bsz N)), (6, pT br), (4, pT bw), (0, pT g), (2, .int .i64 (t : Int))] ((br, oC #[.slice none 0 0] 49) :: (bw, oC #[nv N y] 49) :: O)) (by kernel_rfl) (fun _ => by kernel_rfl) (⟨rfl, rfl, rfl, (by kernel_rfl), rfl, fun ac4 wd4 FF4 MM4 => then_n ?_⟩))
  refine wp_ret ?_
  repeat first | refine then_ret ?_ | refine inb_ret ?_
  exact (ret_ct FF4 MM4 (k := 1) (i := 0) (j := 2) (m := 0) Tryd.results19 rfl rfl rfl Tryd.underlying49 rfl (by kernel_rfl) rfl ⟨rfl, MM4.belowN H (fun _ hx => List.mem_cons_of_mem _ (List.mem_cons_of_mem _ (hx)))⟩)
theorem tunder_zero (g : Nat) (N : Nat) (y : Value) (hs : qsz N < 1000000) (t : Int) (hz : bsz N < 1) (w : World) (hN : NatIn w (nv N y) N) : Calls Tryd.prog 19 #[pT g, .agg #[nv N y], .int .i64 t] w fun e w' => e = .returned (.tuple #[.agg #[.slice none 0 0], iN 1]) ∧ Below w.heap.size w w' := by
  obtain ⟨O, h1_, h2_, h3_⟩ := nat1_O hN
  exact tunder_zeroO O h2_ g N y h3_ hs t hz w h1_
set_option maxRecDepth 100000 in
theorem tunder_bigO (O : Blks) (hD : Distinct O) (g : Nat) (N : Nat) (y : Value) (hN : NatO O (nv N y) N) (hs : qsz N < 1000000) (t : Int) (hz : bsz N > 1024)  (w0 : World) (H : Has w0 O) :
    Calls Tryd.prog 19 #[pT g, .agg #[nv N y], .int .i64 t] w0 fun e w' => e = .returned (.tuple #[.agg #[.slice none 0 0], iN 1]) ∧ Below w0.heap.size w0 w' := by
  refine enter_fr Tryd.func19 rfl Tryd.ntmps19 (by simp) fun ac (FF : Fr 41 ac [(0, pT g), (1, aG #[nv N y]), (2, .int .i64 (t : Int))]) => ?_
  have MM : MemS (fun k => k < w0.heap.size ∧ ∀ x ∈ O, x.1 ≠ k) w0 w0 O [] := MemS.startN H hD
  refine wp_seq (rg_seq FF MM [o_, o_, o_] [0, 2, 4, 6, 7] (fun Kt => ∀ bw, ∀ br, Kt [(7, iN 0), (6, pT br), (4, pT bw), (0, pT g), (2, .int .i64 (t : Int))] ((br, oC #[.slice none 0 0] 49) :: (bw, oC #[nv N y] 49) :: O)) (by kernel_rfl) (fun _ => by kernel_rfl) (fun bw => fun br => fun ac1 wd1 FF1 MM1 => then_n ?_))
  refine wp_seq (rg_seq FF1 MM1 [b_ 1, u_ 1 (iN (bsz N)), o_] [7, 6, 4, 0, 2, 8] (fun Kt => bw = bw ∧ (#[nv N y] : Array Value).size = 1 ∧ CallP Tryd.prog 26 [aG #[nv N y]] ((br, oC #[.slice none 0 0] 49) :: (bw, oC #[nv N y] 49) :: O) (iN (bsz N)) ∧ Kt [(8, iN (bsz N)), (7, iN 0), (6, pT br), (4, pT bw), (0, pT g), (2, .int .i64 (t : Int))] ((br, oC #[.slice none 0 0] 49) :: (bw, oC #[nv N y] 49) :: O)) (by kernel_rfl) (fun _ => by kernel_rfl) (⟨rfl, rfl, ⟨en_nbits, fun w Hw => nbits_any N y hs w (hN.at (Has.tl (Has.tl Hw)))⟩, fun ac2 wd2 FF2 MM2 => then_n ?_⟩))
  refine wp_seq ?_
  refine wp_seq (rg_seq FF2 MM2 [o_, f_ (.bool false), o_, o_, w_ 3, o_, o_, o_, w_ 2, o_, o_, o_, o_, o_, o_] [8, 7, 6, 4, 0, 2, 26] (fun Kt => RunV Tryd.prog [(12, pT g), (8, iN (bsz N)), (7, iN 0), (6, pT br), (4, pT bw), (0, pT g), (2, .int .i64 (t : Int))] ((br, oC #[.slice none 0 0] 49) :: (bw, oC #[nv N y] 49) :: O) (opAt Tryd.f19 2 1) (.bool false) ∧ ¬ ((bsz N) < 1) ∧ (bsz N) > 1024 ∧ Kt [(26, .bool true), (8, iN (bsz N)), (7, iN 0), (6, pT br), (4, pT bw), (0, pT g), (2, .int .i64 (t : Int))] ((br, oC #[.slice none 0 0] 49) :: (bw, oC #[nv N y] 49) :: O)) (by kernel_rfl) (fun _ => by kernel_rfl) (⟨(ptrSome_ok (t := 25) (t' := 25) (x := (.tmp 12)) (y := (.const (.pointer none))) (by kernel_rfl) rfl rfl Tryd.underlying25), (by omega), hz, fun ac3 wd3 FF3 MM3 => then_n ?_⟩))
  refine wp_cond_true (FF3.ev 0 rfl) ?_
  refine wp_seq (rg_seq FF3 MM3 [o_, b_ 0, o_] [8, 7, 6, 4, 0, 2] (fun Kt => br = br ∧ (#[.slice none 0 0] : Array Value).size = 1 ∧ (#[.slice none 0 0] : Array Value).size = 1 ∧ (#[.slice none 0 0] : Array Value).all (·.oneCell') = true ∧ (0, 0).2 = 0 ∧ Kt [(7, iN 1), (8, iN (bsz N)), (6, pT br), (4, pT bw), (0, pT g), (2, .int .i64 (t : Int))] ((br, oC #[.slice none 0 0] 49) :: (bw, oC #[nv N y] 49) :: O)) (by kernel_rfl) (fun _ => by kernel_rfl) (⟨rfl, rfl, rfl, (by kernel_rfl), rfl, fun ac4 wd4 FF4 MM4 => then_n ?_⟩))
  refine wp_ret ?_
  repeat first | refine then_ret ?_ | refine inb_ret ?_
  exact (ret_ct FF4 MM4 (k := 1) (i := 0) (j := 2) (m := 0) Tryd.results19 rfl rfl rfl Tryd.underlying49 rfl (by kernel_rfl) rfl ⟨rfl, MM4.belowN H (fun _ hx => List.mem_cons_of_mem _ (List.mem_cons_of_mem _ (hx)))⟩)
theorem tunder_big (g : Nat) (N : Nat) (y : Value) (hs : qsz N < 1000000) (t : Int) (hz : bsz N > 1024) (w : World) (hN : NatIn w (nv N y) N) : Calls Tryd.prog 19 #[pT g, .agg #[nv N y], .int .i64 t] w fun e w' => e = .returned (.tuple #[.agg #[.slice none 0 0], iN 1]) ∧ Below w.heap.size w w' := by
  obtain ⟨O, h1_, h2_, h3_⟩ := nat1_O hN
  exact tunder_bigO O h2_ g N y h3_ hs t hz w h1_
set_option maxRecDepth 100000 in
theorem tunder_tloO (O : Blks) (hD : Distinct O) (g : Nat) (N : Nat) (y : Value) (hN : NatO O (nv N y) N) (hs : qsz N < 1000000) (t : Int) (h1 : 1 ≤ bsz N) (hb : bsz N ≤ 1024) (hz : t < 1)  (w0 : World) (H : Has w0 O) :
    Calls Tryd.prog 19 #[pT g, .agg #[nv N y], .int .i64 t] w0 fun e w' => e = .returned (.tuple #[.agg #[.slice none 0 0], iN 1]) ∧ Below w0.heap.size w0 w' := by
  refine enter_fr Tryd.func19 rfl Tryd.ntmps19 (by simp) fun ac (FF : Fr 41 ac [(0, pT g), (1, aG #[nv N y]), (2, .int .i64 (t : Int))]) => ?_
  have MM : MemS (fun k => k < w0.heap.size ∧ ∀ x ∈ O, x.1 ≠ k) w0 w0 O [] := MemS.startN H hD
  refine wp_seq (rg_seq FF MM [o_, o_, o_] [0, 2, 4, 6, 7] (fun Kt => ∀ bw, ∀ br, Kt [(7, iN 0), (6, pT br), (4, pT bw), (0, pT g), (2, .int .i64 (t : Int))] ((br, oC #[.slice none 0 0] 49) :: (bw, oC #[nv N y] 49) :: O)) (by kernel_rfl) (fun _ => by kernel_rfl) (fun bw => fun br => fun ac1 wd1 FF1 MM1 => then_n ?_))
  refine wp_seq (rg_seq FF1 MM1 [b_ 1, u_ 1 (iN (bsz N)), o_] [7, 6, 4, 0, 2, 8] (fun Kt => bw = bw ∧ (#[nv N y] : Array Value).size = 1 ∧ CallP Tryd.prog 26 [aG #[nv N y]] ((br, oC #[.slice none 0 0] 49) :: (bw, oC #[nv N y] 49) :: O) (iN (bsz N)) ∧ Kt [(8, iN (bsz N)), (7, iN 0), (6, pT br), (4, pT bw), (0, pT g), (2, .int .i64 (t : Int))] ((br, oC #[.slice none 0 0] 49) :: (bw, oC #[nv N y] 49) :: O)) (by kernel_rfl) (fun _ => by kernel_rfl) (⟨rfl, rfl, ⟨en_nbits, fun w Hw => nbits_any N y hs w (hN.at (Has.tl (Has.tl Hw)))⟩, fun ac2 wd2 FF2 MM2 => then_n ?_⟩))
  refine wp_seq ?_
  refine wp_seq (rg_seq FF2 MM2 [o_, f_ (.bool false), o_, o_, w_ 3, o_, o_, o_, w_ 3, o_, o_, o_, t_ (.bool false), o_, o_] [8, 7, 6, 4, 0, 2, 26] (fun Kt => RunV Tryd.prog [(12, pT g), (8, iN (bsz N)), (7, iN 0), (6, pT br), (4, pT bw), (0, pT g), (2, .int .i64 (t : Int))] ((br, oC #[.slice none 0 0] 49) :: (bw, oC #[nv N y] 49) :: O) (opAt Tryd.f19 2 1) (.bool false) ∧ ¬ ((bsz N) < 1) ∧ ¬ ((bsz N) > 1024) ∧ CallP Tryd.prog 30 [.int .i64 (t : Int)] [] (.bool false) ∧ Kt [(26, .bool true), (8, iN (bsz N)), (7, iN 0), (6, pT br), (4, pT bw), (0, pT g), (2, .int .i64 (t : Int))] ((br, oC #[.slice none 0 0] 49) :: (bw, oC #[nv N y] 49) :: O)) (by kernel_rfl) (fun _ => by kernel_rfl) (⟨(ptrSome_ok (t := 25) (t' := 25) (x := (.tmp 12)) (y := (.const (.pointer none))) (by kernel_rfl) rfl rfl Tryd.underlying25), (by omega), (by omega), (callP_of en_maybe (maybe_lo t hz) _), fun ac3 wd3 FF3 MM3 => then_n ?_⟩))
  refine wp_cond_true (FF3.ev 0 rfl) ?_
  refine wp_seq (rg_seq FF3 MM3 [o_, b_ 0, o_] [8, 7, 6, 4, 0, 2] (fun Kt => br = br ∧ (#[.slice none 0 0] : Array Value).size = 1 ∧ (#[.slice none 0 0] : Array Value).size = 1 ∧ (#[.slice none 0 0] : Array Value).all (·.oneCell') = true ∧ (0, 0).2 = 0 ∧ Kt [(7, iN 1), (8, iN (bsz N)), (6, pT br), (4, pT bw), (0, pT g), (2, .int .i64 (t : Int))] ((br, oC #[.slice none 0 0] 49) :: (bw, oC #[nv N y] 49) :: O)) (by kernel_rfl) (fun _ => by kernel_rfl) (⟨rfl, rfl, rfl, (by kernel_rfl), rfl, fun ac4 wd4 FF4 MM4 => then_n ?_⟩))
  refine wp_ret ?_
  repeat first | refine then_ret ?_ | refine inb_ret ?_
  exact (ret_ct FF4 MM4 (k := 1) (i := 0) (j := 2) (m := 0) Tryd.results19 rfl rfl rfl Tryd.underlying49 rfl (by kernel_rfl) rfl ⟨rfl, MM4.belowN H (fun _ hx => List.mem_cons_of_mem _ (List.mem_cons_of_mem _ (hx)))⟩)
theorem tunder_tlo (g : Nat) (N : Nat) (y : Value) (hs : qsz N < 1000000) (t : Int) (h1 : 1 ≤ bsz N) (hb : bsz N ≤ 1024) (hz : t < 1) (w : World) (hN : NatIn w (nv N y) N) : Calls Tryd.prog 19 #[pT g, .agg #[nv N y], .int .i64 t] w fun e w' => e = .returned (.tuple #[.agg #[.slice none 0 0], iN 1]) ∧ Below w.heap.size w w' := by
  obtain ⟨O, h1_, h2_, h3_⟩ := nat1_O hN
  exact tunder_tloO O h2_ g N y h3_ hs t h1 hb hz w h1_
set_option maxRecDepth 100000 in
theorem tunder_thiO (O : Blks) (hD : Distinct O) (g : Nat) (N : Nat) (y : Value) (hN : NatO O (nv N y) N) (hs : qsz N < 1000000) (t : Int) (h1 : 1 ≤ bsz N) (hb : bsz N ≤ 1024) (hz : t > 16)  (w0 : World) (H : Has w0 O) :
    Calls Tryd.prog 19 #[pT g, .agg #[nv N y], .int .i64 t] w0 fun e w' => e = .returned (.tuple #[.agg #[.slice none 0 0], iN 1]) ∧ Below w0.heap.size w0 w' := by
  refine enter_fr Tryd.func19 rfl Tryd.ntmps19 (by simp) fun ac (FF : Fr 41 ac [(0, pT g), (1, aG #[nv N y]), (2, .int .i64 (t : Int))]) => ?_
  have MM : MemS (fun k => k < w0.heap.size ∧ ∀ x ∈ O, x.1 ≠ k) w0 w0 O [] := MemS.startN H hD
  refine wp_seq (rg_seq FF MM [o_, o_, o_] [0, 2, 4, 6, 7] (fun Kt => ∀ bw, ∀ br, Kt [(7, iN 0), (6, pT br), (4, pT bw), (0, pT g), (2, .int .i64 (t : Int))] ((br, oC #[.slice none 0 0] 49) :: (bw, oC #[nv N y] 49) :: O)) (by kernel_rfl) (fun _ => by kernel_rfl) (fun bw => fun br => fun ac1 wd1 FF1 MM1 => then_n ?_))
  refine wp_seq (rg_seq FF1 MM1 [b_ 1, u_ 1 (iN (bsz N)), o_] [7, 6, 4, 0, 2, 8] (fun Kt => bw = bw ∧ (#[nv N y] : Array Value).size = 1 ∧ CallP Tryd.prog 26 [aG #[nv N y]] ((br, oC #[.slice none 0 0] 49) :: (bw, oC #[nv N y] 49) :: O) (iN (bsz N)) ∧ Kt [(8, iN (bsz N)), (7, iN 0), (6, pT br), (4, pT bw), (0, pT g), (2, .int .i64 (t : Int))] ((br, oC #[.slice none 0 0] 49) :: (bw, oC #[nv N y] 49) :: O)) (by kernel_rfl) (fun _ => by kernel_rfl) (⟨rfl, rfl, ⟨en_nbits, fun w Hw => nbits_any N y hs w (hN.at (Has.tl (Has.tl Hw)))⟩, fun ac2 wd2 FF2 MM2 => then_n ?_⟩))
  refine wp_seq ?_
  refine wp_seq (rg_seq FF2 MM2 [o_, f_ (.bool false), o_, o_, w_ 3, o_, o_, o_, w_ 3, o_, o_, o_, t_ (.bool false), o_, o_] [8, 7, 6, 4, 0, 2, 26] (fun Kt => RunV Tryd.prog [(12, pT g), (8, iN (bsz N)), (7, iN 0), (6, pT br), (4, pT bw), (0, pT g), (2, .int .i64 (t : Int))] ((br, oC #[.slice none 0 0] 49) :: (bw, oC #[nv N y] 49) :: O) (opAt Tryd.f19 2 1) (.bool false) ∧ ¬ ((bsz N) < 1) ∧ ¬ ((bsz N) > 1024) ∧ CallP Tryd.prog 30 [.int .i64 (t : Int)] [] (.bool false) ∧ Kt [(26, .bool true), (8, iN (bsz N)), (7, iN 0), (6, pT br), (4, pT bw), (0, pT g), (2, .int .i64 (t : Int))] ((br, oC #[.slice none 0 0] 49) :: (bw, oC #[nv N y] 49) :: O)) (by kernel_rfl) (fun _ => by kernel_rfl) (⟨(ptrSome_ok (t := 25) (t' := 25) (x := (.tmp 12)) (y := (.const (.pointer none))) (by kernel_rfl) rfl rfl Tryd.underlying25), (by omega), (by omega), (callP_of en_maybe (maybe_hi t hz) _), fun ac3 wd3 FF3 MM3 => then_n ?_⟩))
  refine wp_cond_true (FF3.ev 0 rfl) ?_
  refine wp_seq (rg_seq FF3 MM3 [o_, b_ 0, o_] [8, 7, 6, 4, 0, 2] (fun Kt => br = br ∧ (#[.slice none 0 0] : Array Value).size = 1 ∧ (#[.slice none 0 0] : Array Value).size = 1 ∧ (#[.slice none 0 0] : Array Value).all (·.oneCell') = true ∧ (0, 0).2 = 0 ∧ Kt [(7, iN 1), (8, iN (bsz N)), (6, pT br), (4, pT bw), (0, pT g), (2, .int .i64 (t : Int))] ((br, oC #[.slice none 0 0] 49) :: (bw, oC #[nv N y] 49) :: O)) (by kernel_rfl) (fun _ => by kernel_rfl) (⟨rfl, rfl, rfl, (by kernel_rfl), rfl, fun ac4 wd4 FF4 MM4 => then_n ?_⟩))
  refine wp_ret ?_
  repeat first | refine then_ret ?_ | refine inb_ret ?_
  exact (ret_ct FF4 MM4 (k := 1) (i := 0) (j := 2) (m := 0) Tryd.results19 rfl rfl rfl Tryd.underlying49 rfl (by kernel_rfl) rfl ⟨rfl, MM4.belowN H (fun _ hx => List.mem_cons_of_mem _ (List.mem_cons_of_mem _ (hx)))⟩)
theorem tunder_thi (g : Nat) (N : Nat) (y : Value) (hs : qsz N < 1000000) (t : Int) (h1 : 1 ≤ bsz N) (hb : bsz N ≤ 1024) (hz : t > 16) (w : World) (hN : NatIn w (nv N y) N) : Calls Tryd.prog 19 #[pT g, .agg #[nv N y], .int .i64 t] w fun e w' => e = .returned (.tuple #[.agg #[.slice none 0 0], iN 1]) ∧ Below w.heap.size w w' := by
  obtain ⟨O, h1_, h2_, h3_⟩ := nat1_O hN
  exact tunder_thiO O h2_ g N y h3_ hs t h1 hb hz w h1_
end Go.Proofs.YtdeiodcfblldgaaDoor
namespace Go.Proofs.YtdeiodcfblldgaaDoor
open Go.RowKit
theorem en_rtrim : Enters Tryd.prog 37 := fun args w => by simp [go_sem]
theorem en_rbytes : Enters Tryd.prog 22 := fun args w => by simp [go_sem]
theorem en_rcmp : Enters Tryd.prog 36 := fun args w => by simp [go_sem]
theorem en_rbits : Enters Tryd.prog 35 := fun args w => by simp [go_sem]
set_option maxRecDepth 100000 in
theorem trim_any (X : List Nat) (hX : ∀ i, X.getD i 0 < 256) (hl : X.length < 4611686018427387904) (w0 : World) :
    Calls Tryd.prog 37 #[sB X] w0 fun e w' => e = .returned (sB (minB (leV X))) ∧ Below w0.heap.size w0 w' := by
  refine enter_fr Tryd.func37 rfl Tryd.ntmps37 (by simp) fun ac (FF : Fr 20 ac [(0, sB X)]) => ?_
  have MM := MemS.start w0
  refine wp_seq (rg_seq FF MM [o_] [0, 2] (fun Kt => Kt [(2, sB []), (0, sB X)] []) (by kernel_rfl) (fun _ => by kernel_rfl) (fun ac1 wd1 FF1 MM1 => then_n ?_))
  refine wp_seq (rg_seq FF1 MM1 [o_, t_ (iN X.length), o_] [2, 0, 3] (fun Kt => iN ((bs X).size) = iN X.length ∧ Kt [(3, iN X.length), (2, sB []), (0, sB X)] []) (by kernel_rfl) (fun _ => by kernel_rfl) (⟨(vI (bs_size _)), fun ac2 wd2 FF2 MM2 => then_n ?_⟩))
  refine wp_seq ?_
  refine wp_for2w (fun a' w' => ∃ n : Nat, n ≤ X.length ∧ (∀ i, n ≤ i → X.getD i 0 = 0) ∧ Fr 20 a' [(3, iN n), (2, sB []), (0, sB X)] ∧ MemS (fun k => k < w0.heap.size) w0 w' [] []) (fun a' _ => (cnt 3 a').toNat) ⟨X.length, Nat.le_refl _, (fun _ h => getD_out h), FF2.pick [0, 1, 2], MM2⟩ ?_
  rintro ac3 wd3 ⟨n, hn, h0, FF3, MM3⟩
  have hc := cnt_of (FF3.get 0 rfl)
  by_cases h1 : n > 0
  · by_cases h2 : X.getD (n - 1) 0 = 0
    · skip
      refine rg_seq FF3 MM3 [o_, w_ 2, o_, o_, o_, o_, t_ (iB (X.getD (n - 1) 0)), w_ 2, o_] [3, 2, 0, 14] (fun Kt => n > 0 ∧ 1 ≤ n ∧ n - 1 < 9223372036854775808 ∧ (n - 1) < (bs X).size ∧ (nl (bs X)).getD (n - 1) 0 = X.getD (n - 1) 0 ∧ (X.getD (n - 1) 0) = 0 ∧ Kt [(14, .bool true), (3, iN n), (2, sB []), (0, sB X)] []) (by kernel_rfl) (fun _ => by kernel_rfl) (⟨(by omega), (by omega), (by omega), (by simp only [bs_size]; omega), (byte_bs hX _), (by have := hX (n - 1); omega), fun ac4 wd4 FF4 MM4 => ?_⟩)
      refine then_n (.inl ⟨FF4.ev 0 rfl, ?_⟩)
      refine rg_seq FF4 MM4 [o_, o_, o_] [3, 2, 0] (fun Kt => 1 ≤ n ∧ n - 1 < 9223372036854775808 ∧ Kt [(3, iN (n - 1)), (2, sB []), (0, sB X)] []) (by kernel_rfl) (fun _ => by kernel_rfl) (⟨(by omega), (by omega), fun ac5 wd5 FF5 MM5 => ?_⟩)
      refine inb_n ?_
      have hd := cnt_of (FF5.get 0 rfl)
      refine then_n ⟨⟨n - 1, by omega, fun i hi => (Nat.eq_or_lt_of_le hi).elim (fun e => e ▸ h2) (fun h => h0 i (by omega)), FF5.pick [0, 1, 2], MM5⟩, ?_⟩
      rw [hc, hd]; omega
    · skip
      refine rg_seq FF3 MM3 [o_, w_ 2, o_, o_, o_, o_, t_ (iB (X.getD (n - 1) 0)), w_ 3, o_] [3, 2, 0, 14] (fun Kt => n > 0 ∧ 1 ≤ n ∧ n - 1 < 9223372036854775808 ∧ (n - 1) < (bs X).size ∧ (nl (bs X)).getD (n - 1) 0 = X.getD (n - 1) 0 ∧ ¬ ((X.getD (n - 1) 0) = 0) ∧ Kt [(14, .bool false), (3, iN n), (2, sB []), (0, sB X)] []) (by kernel_rfl) (fun _ => by kernel_rfl) (⟨(by omega), (by omega), (by omega), (by simp only [bs_size]; omega), (byte_bs hX _), (by have := hX (n - 1); omega), fun ac6 wd6 FF6 MM6 => ?_⟩)
      refine then_n (.inr ⟨FF6.ev 0 rfl, ?_⟩)
      refine then_n ?_
      refine wp_seq (rg_seq FF6 MM6 [o_, o_, t_ (sB (minB (leV X))), o_] [3, 2, 0] (fun Kt => 0 ≤ n ∧ n ≤ (bs X).size ∧ Value.string ((bs X).extract 0 n) = sB (minB (leV X)) ∧ Kt [(2, sB (minB (leV X))), (3, iN n), (0, sB X)] []) (by kernel_rfl) (fun _ => by kernel_rfl) (⟨(Nat.zero_le _), (by simp only [bs_size]; omega), (vS2 ((bs_extract _ _ _).trans (congrArg bs ((List.drop_zero ..).trans (trim_ok hX hn h0 (by first | exact .inl (by omega) | exact .inr h2)))))), fun ac7 wd7 FF7 MM7 => then_n ?_⟩))
      refine wp_ret ?_
      repeat first | refine then_ret ?_ | refine inb_ret ?_
      exact (ret_fr FF7 0 Tryd.results37 rfl ⟨rfl, MM7.below⟩)
  · skip
    refine rg_seq FF3 MM3 [o_, w_ 3, o_, o_, o_, o_, o_, o_, o_] [3, 2, 0, 14] (fun Kt => ¬ (n > 0) ∧ Kt [(14, .bool false), (3, iN n), (2, sB []), (0, sB X)] []) (by kernel_rfl) (fun _ => by kernel_rfl) (⟨(by omega), fun ac8 wd8 FF8 MM8 => ?_⟩)
    refine then_n (.inr ⟨FF8.ev 0 rfl, ?_⟩)
    refine then_n ?_
    refine wp_seq (rg_seq FF8 MM8 [o_, o_, t_ (sB (minB (leV X))), o_] [3, 2, 0] (fun Kt => 0 ≤ n ∧ n ≤ (bs X).size ∧ Value.string ((bs X).extract 0 n) = sB (minB (leV X)) ∧ Kt [(2, sB (minB (leV X))), (3, iN n), (0, sB X)] []) (by kernel_rfl) (fun _ => by kernel_rfl) (⟨(Nat.zero_le _), (by simp only [bs_size]; omega), (vS2 ((bs_extract _ _ _).trans (congrArg bs ((List.drop_zero ..).trans (trim_ok hX hn h0 (by first | exact .inl (by omega) | exact .inr h2)))))), fun ac9 wd9 FF9 MM9 => then_n ?_⟩))
    refine wp_ret ?_
    repeat first | refine then_ret ?_ | refine inb_ret ?_
    exact (ret_fr FF9 0 Tryd.results37 rfl ⟨rfl, MM9.below⟩)
set_option maxRecDepth 100000 in
theorem bytes_any (X : List Nat) (hX : ∀ i, X.getD i 0 < 256) (hl : X.length < 4611686018427387904) (w0 : World) :
    Calls Tryd.prog 22 #[sB X] w0 fun e w' => e = .returned (sB (minB (leV X))) ∧ Below w0.heap.size w0 w' := by
  refine enter_fr Tryd.func22 rfl Tryd.ntmps22 (by simp) fun ac (FF : Fr 5 ac [(0, sB X)]) => ?_
  have MM := MemS.start w0
  refine wp_seq (rg_seq FF MM [o_] [0, 2] (fun Kt => Kt [(2, sB []), (0, sB X)] []) (by kernel_rfl) (fun _ => by kernel_rfl) (fun ac1 wd1 FF1 MM1 => then_n ?_))
  refine wp_seq (rg_seq FF1 MM1 [o_, t_ (sB (minB (leV X))), o_] [2] (fun Kt => CallP Tryd.prog 37 [sB X] [] (sB (minB (leV X))) ∧ Kt [(2, sB (minB (leV X)))] []) (by kernel_rfl) (fun _ => by kernel_rfl) (⟨(callP_of en_rtrim (trim_any X hX (by omega)) _), fun ac2 wd2 FF2 MM2 => then_n ?_⟩))
  refine wp_ret ?_
  repeat first | refine then_ret ?_ | refine inb_ret ?_
  exact (ret_fr FF2 0 Tryd.results22 rfl ⟨rfl, MM2.below⟩)
set_option maxRecDepth 100000 in
theorem cmp_any (M N : Nat) (hz : sz M + sz N < 1000000) (w0 : World) :
    Calls Tryd.prog 36 #[sB (minB M), sB (minB N)] w0 fun e w' => e = .returned (.int .i64 (cmpN M N)) ∧ Below w0.heap.size w0 w' := by
  refine enter_fr Tryd.func36 rfl Tryd.ntmps36 (by simp) fun ac (FF : Fr 37 ac [(0, sB (minB M)), (1, sB (minB N))]) => ?_
  have MM := MemS.start w0
  refine wp_seq (rg_seq FF MM [o_] [0, 1, 4] (fun Kt => Kt [(4, iN 0), (0, sB (minB M)), (1, sB (minB N))] []) (by kernel_rfl) (fun _ => by kernel_rfl) (fun ac1 wd1 FF1 MM1 => then_n ?_))
  refine wp_seq ?_
  refine wp_seq (rg_seq FF1 MM1 [o_, t_ (iN (sz M)), o_, t_ (iN (sz N)), o_] [4, 0, 1, 10] (fun Kt => iN ((bs (minB M)).size) = iN (sz M) ∧ iN ((bs (minB N)).size) = iN (sz N) ∧ Kt [(10, .bool (decide ((sz M) ≠ (sz N)))), (4, iN 0), (0, sB (minB M)), (1, sB (minB N))] []) (by kernel_rfl) (fun _ => by kernel_rfl) (⟨(vI ((bs_size _).trans (minB_len M))), (vI ((bs_size _).trans (minB_len N))), fun ac2 wd2 FF2 MM2 => then_n ?_⟩))
  by_cases hs10 : (sz M) ≠ (sz N)
  · refine wp_cond_true ((FF2.ev 0 rfl).trans (dec_t hs10)) ?_
    refine wp_seq ?_
    refine wp_seq (rg_seq FF2 MM2 [o_, t_ (iN (sz M)), o_, t_ (iN (sz N)), o_] [4, 0, 1, 15] (fun Kt => iN ((bs (minB M)).size) = iN (sz M) ∧ iN ((bs (minB N)).size) = iN (sz N) ∧ Kt [(15, .bool (decide ((sz M) < (sz N)))), (4, iN 0), (0, sB (minB M)), (1, sB (minB N))] []) (by kernel_rfl) (fun _ => by kernel_rfl) (⟨(vI ((bs_size _).trans (minB_len M))), (vI ((bs_size _).trans (minB_len N))), fun ac3 wd3 FF3 MM3 => then_n ?_⟩))
    by_cases hs15 : (sz M) < (sz N)
    · refine wp_cond_true ((FF3.ev 0 rfl).trans (dec_t hs15)) ?_
      have hM := cmp_len hs15
      refine wp_seq (rg_seq FF3 MM3 [o_] [4, 0, 1] (fun Kt => Kt [(4, .int .i64 (-1 : Int)), (0, sB (minB M)), (1, sB (minB N))] []) (by kernel_rfl) (fun _ => by kernel_rfl) (fun ac4 wd4 FF4 MM4 => then_n ?_))
      refine wp_ret ?_
      repeat first | refine then_ret ?_ | refine inb_ret ?_
      exact (ret_fr FF4 0 Tryd.results36 rfl ⟨congrArg (fun z => Ending.returned (Value.int .i64 z)) (cmpm hM), MM4.below⟩)
    · refine wp_cond_false ((FF3.ev 0 rfl).trans (dec_f hs15)) ?_
      have hM := cmp_len (show sz N < sz M by omega)
      refine wp_skip ?_
      refine then_n ?_
      refine wp_seq (rg_seq FF3 MM3 [o_] [4, 0, 1] (fun Kt => Kt [(4, iN 1), (0, sB (minB M)), (1, sB (minB N))] []) (by kernel_rfl) (fun _ => by kernel_rfl) (fun ac5 wd5 FF5 MM5 => then_n ?_))
      refine wp_ret ?_
      repeat first | refine then_ret ?_ | refine inb_ret ?_
      exact (ret_fr FF5 0 Tryd.results36 rfl ⟨congrArg (fun z => Ending.returned (Value.int .i64 z)) (cmp1 hM), MM5.below⟩)
  · refine wp_cond_false ((FF2.ev 0 rfl).trans (dec_f hs10)) ?_
    have hs : sz M = sz N := by omega
    refine wp_skip ?_
    refine then_n ?_
    refine wp_seq ?_
    refine wp_seq (rg_seq FF2 MM2 [o_, t_ (iN (sz M)), u_ 4 (.int .i64 (((sz M : Nat) : Int) - 1 : Int)), o_] [4, 0, 1, 5] (fun Kt => iN ((bs (minB M)).size) = iN (sz M) ∧ -(9223372036854775808 : Int) ≤ ((sz M : Nat) : Int) - ((1 : Nat) : Int) ∧ ((sz M : Nat) : Int) - ((1 : Nat) : Int) < (9223372036854775808 : Nat) ∧ Value.int .i64 (((sz M : Nat) : Int) - ((1 : Nat) : Int) : Int) = .int .i64 (((sz M : Nat) : Int) - 1 : Int) ∧ Kt [(5, .int .i64 (((sz M : Nat) : Int) - 1 : Int)), (4, iN 0), (0, sB (minB M)), (1, sB (minB N))] []) (by kernel_rfl) (fun _ => by kernel_rfl) (⟨(vI ((bs_size _).trans (minB_len M))), (by omega), (by omega), (vZ (by omega)), fun ac6 wd6 FF6 MM6 => then_n ?_⟩))
    refine wp_for2 (fun a' w' => ∃ j : Nat, j ≤ sz M ∧ M / 256 ^ j = N / 256 ^ j ∧ Fr 37 a' [(5, .int .i64 (((j : Nat) : Int) - 1 : Int)), (0, sB (minB M)), (1, sB (minB N))] ∧ MemS (fun k => k < w0.heap.size) w0 w' [] []) (fun a' _ => (cnt 5 a' + 1).toNat) ⟨sz M, Nat.le_refl _, cmp_top hs, FF6.pick [0, 2, 3], MM6⟩ ?_
    rintro ac7 wd7 ⟨j, hj, hq, FF7, MM7⟩
    have hc := cnt_of (FF7.get 0 rfl)
    refine rg_seq FF7 MM7 [o_, w_ 4] [5, 0, 1, 20] (fun Kt => Kt [(20, .bool (decide ((((j : Nat) : Int) - 1) ≥ ((0 : Nat) : Int)))), (5, .int .i64 (((j : Nat) : Int) - 1 : Int)), (0, sB (minB M)), (1, sB (minB N))] []) (by kernel_rfl) (fun _ => by kernel_rfl) (fun ac8 wd8 FF8 MM8 => ?_)
    by_cases hlt : (((j : Nat) : Int) - 1) ≥ ((0 : Nat) : Int)
    · skip
      refine then_n (.inl ⟨(FF8.ev 0 rfl).trans (dec_t hlt), ?_⟩)
      obtain ⟨j, rfl⟩ : ∃ z, j = z + 1 := ⟨j - 1, by omega⟩
      refine wp_seq (rg_draw FF8 MM8 [.inl (sB (minB M)), .inl (iN j), .inl (iB (M / 256 ^ j % 256)), .inl (sB (minB N)), .inl (iN j), .inl (iB (N / 256 ^ j % 256)), .inl (.bool (decide ((M / 256 ^ j % 256) ≠ (N / 256 ^ j % 256))))] [] [o_, t_ (iN j), t_ (iB (M / 256 ^ j % 256)), o_, t_ (iN j), t_ (iB (N / 256 ^ j % 256)), o_] [] [5, 0, 1, 29] (fun nb => [Value.int .i64 ((((j + 1) : Nat) : Int) - 1 : Int) = iN j, j < (bs (minB M)).size, (nl (bs (minB M))).getD j 0 = M / 256 ^ j % 256, Value.int .i64 ((((j + 1) : Nat) : Int) - 1 : Int) = iN j, j < (bs (minB N)).size, (nl (bs (minB N))).getD j 0 = N / 256 ^ j % 256]) (fun nb Kt => Kt [(29, .bool (decide ((M / 256 ^ j % 256) ≠ (N / 256 ^ j % 256)))), (5, .int .i64 ((((j + 1) : Nat) : Int) - 1 : Int)), (0, sB (minB M)), (1, sB (minB N))] []) (by kernel_rfl) (by kernel_rfl) (by kernel_rfl) (fun _ => by kernel_rfl) (fun _ _ => by kernel_rfl) trivial (fun nb => ⟨(vZ (by omega)), (by simp only [bs_size, minB_len]; omega), ((byte_bs (minB_lt M) _).trans (minB_get M _)), (vZ (by omega)), (by simp only [bs_size, minB_len]; omega), ((byte_bs (minB_lt N) _).trans (minB_get N _)), trivial⟩) (fun nb => fun ac9 wd9 FF9 MM9 => then_n ?_))
      by_cases hs29 : (M / 256 ^ j % 256) ≠ (N / 256 ^ j % 256)
      · refine wp_cond_true ((FF9.ev 0 rfl).trans (dec_t hs29)) ?_
        refine wp_seq ?_
        refine wp_seq (rg_draw FF9 MM9 [.inl (sB (minB M)), .inl (iN j), .inl (iB (M / 256 ^ j % 256)), .inl (sB (minB N)), .inl (iN j), .inl (iB (N / 256 ^ j % 256)), .inl (.bool (decide ((M / 256 ^ j % 256) < (N / 256 ^ j % 256))))] [] [o_, t_ (iN j), t_ (iB (M / 256 ^ j % 256)), o_, t_ (iN j), t_ (iB (N / 256 ^ j % 256)), o_] [] [5, 0, 1, 36] (fun nb => [Value.int .i64 ((((j + 1) : Nat) : Int) - 1 : Int) = iN j, j < (bs (minB M)).size, (nl (bs (minB M))).getD j 0 = M / 256 ^ j % 256, Value.int .i64 ((((j + 1) : Nat) : Int) - 1 : Int) = iN j, j < (bs (minB N)).size, (nl (bs (minB N))).getD j 0 = N / 256 ^ j % 256]) (fun nb Kt => Kt [(36, .bool (decide ((M / 256 ^ j % 256) < (N / 256 ^ j % 256)))), (5, .int .i64 ((((j + 1) : Nat) : Int) - 1 : Int)), (0, sB (minB M)), (1, sB (minB N))] []) (by kernel_rfl) (by kernel_rfl) (by kernel_rfl) (fun _ => by kernel_rfl) (fun _ _ => by kernel_rfl) trivial (fun nb => ⟨(vZ (by omega)), (by simp only [bs_size, minB_len]; omega), ((byte_bs (minB_lt M) _).trans (minB_get M _)), (vZ (by omega)), (by simp only [bs_size, minB_len]; omega), ((byte_bs (minB_lt N) _).trans (minB_get N _)), trivial⟩) (fun nb => fun ac10 wd10 FF10 MM10 => then_n ?_))
        by_cases hs36 : (M / 256 ^ j % 256) < (N / 256 ^ j % 256)
        · refine wp_cond_true ((FF10.ev 0 rfl).trans (dec_t hs36)) ?_
          have hM := cmp_lt hq hs36
          refine wp_seq (rg_seq FF10 MM10 [o_] [5, 0, 1, 4] (fun Kt => Kt [(4, .int .i64 (-1 : Int)), (5, .int .i64 ((((j + 1) : Nat) : Int) - 1 : Int)), (0, sB (minB M)), (1, sB (minB N))] []) (by kernel_rfl) (fun _ => by kernel_rfl) (fun ac11 wd11 FF11 MM11 => then_n ?_))
          refine wp_ret ?_
          repeat first | refine then_ret ?_ | refine inb_ret ?_
          exact (ret_fr FF11 0 Tryd.results36 rfl ⟨congrArg (fun z => Ending.returned (Value.int .i64 z)) (cmpm hM), MM11.below⟩)
        · refine wp_cond_false ((FF10.ev 0 rfl).trans (dec_f hs36)) ?_
          have hM := cmp_lt hq.symm (by omega)
          refine wp_skip ?_
          refine then_n ?_
          refine wp_seq (rg_seq FF10 MM10 [o_] [5, 0, 1, 4] (fun Kt => Kt [(4, iN 1), (5, .int .i64 ((((j + 1) : Nat) : Int) - 1 : Int)), (0, sB (minB M)), (1, sB (minB N))] []) (by kernel_rfl) (fun _ => by kernel_rfl) (fun ac12 wd12 FF12 MM12 => then_n ?_))
          refine wp_ret ?_
          repeat first | refine then_ret ?_ | refine inb_ret ?_
          exact (ret_fr FF12 0 Tryd.results36 rfl ⟨congrArg (fun z => Ending.returned (Value.int .i64 z)) (cmp1 hM), MM12.below⟩)
      · refine wp_cond_false ((FF9.ev 0 rfl).trans (dec_f hs29)) ?_
        have hq2 := cmp_eq hq (by omega)
        refine wp_skip ?_
        refine inb_n (then_n ?_)
        refine rg_seq FF9 MM9 [o_, u_ 4 (.int .i64 (((j : Nat) : Int) - 1 : Int)), o_] [5, 0, 1] (fun Kt => -(9223372036854775808 : Int) ≤ ((((j + 1) : Nat) : Int) - 1) - ((1 : Nat) : Int) ∧ ((((j + 1) : Nat) : Int) - 1) - ((1 : Nat) : Int) < (9223372036854775808 : Nat) ∧ Value.int .i64 (((((j + 1) : Nat) : Int) - 1) - ((1 : Nat) : Int) : Int) = .int .i64 (((j : Nat) : Int) - 1 : Int) ∧ Kt [(5, .int .i64 (((j : Nat) : Int) - 1 : Int)), (0, sB (minB M)), (1, sB (minB N))] []) (by kernel_rfl) (fun _ => by kernel_rfl) (⟨(by omega), (by omega), (vZ (by omega)), fun ac13 wd13 FF13 MM13 => ?_⟩)
        have hd := cnt_of (FF13.get 0 rfl)
        refine then_n ⟨⟨j, by omega, hq2, FF13.pick [0, 1, 2], MM13⟩, ?_⟩
        rw [hc, hd]; omega
    · skip
      refine then_n (.inr ⟨(FF8.ev 0 rfl).trans (dec_f hlt), ?_⟩)
      obtain rfl : j = 0 := by omega
      have hM : M = N := by simpa using hq
      refine then_n ?_
      refine wp_seq (rg_seq FF8 MM8 [o_] [5, 0, 1, 4] (fun Kt => Kt [(4, iN 0), (5, .int .i64 (((0 : Nat) : Int) - 1 : Int)), (0, sB (minB M)), (1, sB (minB N))] []) (by kernel_rfl) (fun _ => by kernel_rfl) (fun ac14 wd14 FF14 MM14 => then_n ?_))
      refine wp_ret ?_
      repeat first | refine then_ret ?_ | refine inb_ret ?_
      exact (ret_fr FF14 0 Tryd.results36 rfl ⟨congrArg (fun z => Ending.returned (Value.int .i64 z)) (cmp0 hM), MM14.below⟩)
end Go.Proofs.YtdeiodcfblldgaaDoor
namespace Go.Proofs.YtdeiodcfblldgaaDoor
open Go.RowKit
theorem bsz_half {x : Nat} (h : 0 < x) : bsz x = 1 + bsz (x / 2) := by
  rcases Nat.lt_or_ge x 2 with h2 | h2
  · obtain rfl : x = 1 := by omega
    rfl
  · exact bsz_div (k := 1) h2
theorem bits8_top {M : Nat} (h : ¬ sz M = 0) : 8 * (sz M - 1) + bsz (M / 256 ^ (sz M - 1) % 256) = bsz M := by
  have h2 := (sz_ok M).2.resolve_left h
  have e : 256 ^ (sz M - 1) = 2 ^ (8 * (sz M - 1)) := by rw [show 256 = 2 ^ 8 by rfl, ← Nat.pow_mul]
  have h1 := (sz_ok M).1
  have e2 : 256 ^ sz M = 256 ^ (sz M - 1) * 256 := by rw [← Nat.pow_succ]; congr 1; omega
  rw [bsz_div (k := 8 * (sz M - 1)) (x := M) (by rw [← e]; exact h2), ← e, Nat.mod_eq_of_lt (Nat.div_lt_of_lt_mul (by rw [← e2]; exact h1))]
theorem sz0 {M : Nat} (h : sz M = 0) : M = 0 := by have := (sz_ok M).1; rw [h] at this; simpa using this
theorem bsz_sz (M : Nat) : bsz M ≤ 8 * sz M := bsz_le (by have := (sz_ok M).1; rwa [show 256 = 2 ^ 8 by rfl, ← Nat.pow_mul] at this)
set_option maxRecDepth 100000 in
theorem bits8_any (N : Nat) (hz : sz N < 1000000) (w0 : World) :
    Calls Tryd.prog 35 #[sB (minB N)] w0 fun e w' => e = .returned (iN (bsz N)) ∧ Below w0.heap.size w0 w' := by
  refine enter_fr Tryd.func35 rfl Tryd.ntmps35 (by simp) fun ac (FF : Fr 24 ac [(0, sB (minB N))]) => ?_
  have MM := MemS.start w0
  refine wp_seq (rg_seq FF MM [o_] [0, 2] (fun Kt => Kt [(2, iN 0), (0, sB (minB N))] []) (by kernel_rfl) (fun _ => by kernel_rfl) (fun ac1 wd1 FF1 MM1 => then_n ?_))
  refine wp_seq ?_
  refine wp_seq (rg_seq FF1 MM1 [o_, t_ (iN (sz N)), o_] [2, 0, 7] (fun Kt => iN ((bs (minB N)).size) = iN (sz N) ∧ Kt [(7, .bool (decide ((sz N) = 0))), (2, iN 0), (0, sB (minB N))] []) (by kernel_rfl) (fun _ => by kernel_rfl) (⟨(vI ((bs_size _).trans (minB_len N))), fun ac2 wd2 FF2 MM2 => then_n ?_⟩))
  by_cases hs7 : (sz N) = 0
  · refine wp_cond_true ((FF2.ev 0 rfl).trans (dec_t hs7)) ?_
    refine wp_seq (rg_seq FF2 MM2 [o_] [2, 0] (fun Kt => Kt [(2, iN 0), (0, sB (minB N))] []) (by kernel_rfl) (fun _ => by kernel_rfl) (fun ac3 wd3 FF3 MM3 => then_n ?_))
    refine wp_ret ?_
    repeat first | refine then_ret ?_ | refine inb_ret ?_
    exact (ret_fr FF3 0 Tryd.results35 rfl ⟨congrArg (fun z : Nat => Ending.returned (Value.int .i64 (z : Int))) ((by rw [sz0 hs7]; rfl)), MM3.below⟩)
  · refine wp_cond_false ((FF2.ev 0 rfl).trans (dec_f hs7)) ?_
    have hb := bsz_sz N
    have ht : N / 256 ^ (sz N - 1) % 256 < 256 := Nat.mod_lt _ (by decide)
    refine wp_skip ?_
    refine then_n ?_
    refine wp_seq (rg_seq FF2 MM2 [o_, t_ (iN (sz N)), o_, o_, o_] [2, 0, 3] (fun Kt => iN ((bs (minB N)).size) = iN (sz N) ∧ 1 ≤ (sz N) ∧ (sz N) - 1 < 9223372036854775808 ∧ 8 * ((sz N) - 1) < 9223372036854775808 ∧ Kt [(3, iN (8 * ((sz N) - 1))), (2, iN 0), (0, sB (minB N))] []) (by kernel_rfl) (fun _ => by kernel_rfl) (⟨(vI ((bs_size _).trans (minB_len N))), (by omega), (by omega), (by omega), fun ac4 wd4 FF4 MM4 => then_n ?_⟩))
    refine wp_seq ?_
    refine wp_seq (rg_seq FF4 MM4 [o_, o_, t_ (iN (sz N)), o_, t_ (iB (N / 256 ^ (sz N - 1) % 256)), o_] [3, 2, 0, 4] (fun Kt => iN ((bs (minB N)).size) = iN (sz N) ∧ 1 ≤ (sz N) ∧ (sz N) - 1 < 9223372036854775808 ∧ ((sz N) - 1) < (bs (minB N)).size ∧ (nl (bs (minB N))).getD ((sz N) - 1) 0 = N / 256 ^ (sz N - 1) % 256 ∧ Kt [(4, iB (N / 256 ^ (sz N - 1) % 256)), (3, iN (8 * ((sz N) - 1))), (2, iN 0), (0, sB (minB N))] []) (by kernel_rfl) (fun _ => by kernel_rfl) (⟨(vI ((bs_size _).trans (minB_len N))), (by omega), (by omega), (by simp only [bs_size, minB_len]; omega), ((byte_bs (minB_lt N) _).trans (minB_get N _)), fun ac5 wd5 FF5 MM5 => then_n ?_⟩))
    refine wp_for2 (fun a' w' => ∃ x : Nat, ∃ c : Nat, x < 256 ∧ c + bsz x = bsz N ∧ Fr 24 a' [(4, iB x), (3, iN c), (2, iN 0), (0, sB (minB N))] ∧ MemS (fun k => k < w0.heap.size) w0 w' [] []) (fun a' _ => (cnt 4 a').toNat) ⟨N / 256 ^ (sz N - 1) % 256, 8 * (sz N - 1), ht, bits8_top hs7, FF5.pick [0, 1, 2, 3], MM5⟩ ?_
    rintro ac6 wd6 ⟨x, c, hx, hc, FF6, MM6⟩
    have hq := cnt_of (FF6.get 0 rfl)
    refine rg_seq FF6 MM6 [o_, o_] [4, 3, 2, 0, 18] (fun Kt => Kt [(18, .bool (decide (x > 0))), (4, iB x), (3, iN c), (2, iN 0), (0, sB (minB N))] []) (by kernel_rfl) (fun _ => by kernel_rfl) (fun ac7 wd7 FF7 MM7 => ?_)
    by_cases hlt : x > 0
    · skip
      refine then_n (.inl ⟨(FF7.ev 0 rfl).trans (dec_t hlt), ?_⟩)
      refine rg_seq FF7 MM7 [o_, o_, o_] [4, 3, 2, 0] (fun Kt => c + 1 < 9223372036854775808 ∧ Kt [(3, iN (c + 1)), (4, iB x), (2, iN 0), (0, sB (minB N))] []) (by kernel_rfl) (fun _ => by kernel_rfl) (⟨(by omega), fun ac8 wd8 FF8 MM8 => ?_⟩)
      refine inb_n (then_n ?_)
      refine rg_seq FF8 MM8 [o_, o_, o_] [3, 4, 2, 0] (fun Kt => 1 ≤ 8 ∧ Kt [(4, iB (x / 2)), (3, iN (c + 1)), (2, iN 0), (0, sB (minB N))] []) (by kernel_rfl) (fun _ => by kernel_rfl) (⟨(by decide), fun ac9 wd9 FF9 MM9 => ?_⟩)
      have hd := cnt_of (FF9.get 0 rfl)
      refine then_n ⟨⟨x / 2, c + 1, by omega, by rw [bsz_half hlt] at hc; omega, FF9.pick [0, 1, 2, 3], MM9⟩, ?_⟩
      rw [hq, hd]; omega
    · skip
      refine then_n (.inr ⟨(FF7.ev 0 rfl).trans (dec_f hlt), ?_⟩)
      have he : c = bsz N := by rw [show x = 0 by omega] at hc; exact hc
      refine then_n ?_
      refine wp_seq (rg_seq FF7 MM7 [o_, o_] [4, 3, 2, 0] (fun Kt => Kt [(2, iN c), (4, iB x), (3, iN c), (0, sB (minB N))] []) (by kernel_rfl) (fun _ => by kernel_rfl) (fun ac10 wd10 FF10 MM10 => then_n ?_))
      refine wp_ret ?_
      repeat first | refine then_ret ?_ | refine inb_ret ?_
      exact (ret_fr FF10 0 Tryd.results35 rfl ⟨congrArg (fun z : Nat => Ending.returned (Value.int .i64 (z : Int))) (he), MM10.below⟩)
end Go.Proofs.YtdeiodcfblldgaaDoor
namespace Go.Proofs.YtdeiodcfblldgaaDoor
open Go.RowKit
theorem en_rtake : Enters Tryd.prog 12 := fun args w => by simp [go_sem]
theorem en_rkey : Enters Tryd.prog 14 := fun args w => by simp [go_sem]
theorem en_rid_ : Enters Tryd.prog 16 := fun args w => by simp [go_sem]
theorem en_rbelow : Enters Tryd.prog 18 := fun args w => by simp [go_sem]
theorem en_runder : Enters Tryd.prog 21 := fun args w => by simp [go_sem]
/-- The document's tape: its bytes, how many were taken. -/
abbrev RB (X : List Nat) (u : Nat) : Obj := .cells #[sB X, iN u] 29
set_option maxRecDepth 100000 in
theorem rtake_any (g n : Nat) (X : List Nat) (u : Nat) (hX : ∀ i, X.getD i 0 < 256) (hu : u < 4611686018427387904) (hn : n ≤ 65536) (w0 : World) (hg : w0.heap[g]? = some (RB X u)) :
    Calls Tryd.prog 12 #[pT g, iN n] w0 fun e w' => e = .returned (sB (takN n (X.drop u))) ∧ Turn g (RB X (u + n)) w0 w' := by
  refine enter_fr Tryd.func12 rfl Tryd.ntmps12 (by simp) fun ac (FF : Fr 51 ac [(0, pT g), (1, iN n)]) => ?_
  have MM : MemS (fun k => k < w0.heap.size ∧ ∀ x ∈ (g, oC #[sB X, iN u] 29) :: ([] : Blks), x.1 ≠ k) w0 w0 ((g, oC #[sB X, iN u] 29) :: ([] : Blks)) [] := MemS.startN (one_has hg) ⟨fun y hy => (nomatch hy), trivial⟩
  have hgl : ∀ j i, (genL n (fun j => (X.drop u).getD j 0) j).getD i 0 < 256 := fun j => genL_lt (by decide) (fun i => dropX_lt hX u i) j
  refine wp_seq (rg_seq FF MM [o_] [0, 1, 4] (fun Kt => Kt [(4, sB []), (0, pT g), (1, iN n)] ((g, oC #[sB X, iN u] 29) :: ([] : Blks))) (by kernel_rfl) (fun _ => by kernel_rfl) (fun ac1 wd1 FF1 MM1 => then_n ?_))
  refine wp_seq ?_
  refine wp_seq (rg_seq FF1 MM1 [o_, w_ 3, o_, o_, w_ 3, o_] [4, 0, 1, 12] (fun Kt => ¬ (n < 0) ∧ ¬ (n > 65536) ∧ Kt [(12, .bool false), (4, sB []), (0, pT g), (1, iN n)] ((g, oC #[sB X, iN u] 29) :: ([] : Blks))) (by kernel_rfl) (fun _ => by kernel_rfl) (⟨(by have := hn; omega), (by have := hn; omega), fun ac2 wd2 FF2 MM2 => then_n ?_⟩))
  refine wp_cond_false (FF2.ev 0 rfl) ?_
  refine wp_skip ?_
  refine then_n ?_
  refine wp_seq (rg_seq FF2 MM2 [o_, n_ (.slice none n n) (.cells (cn .u8 (List.replicate n 0)) 5), o_] [4, 0, 1, 5] (fun Kt => RunN Tryd.prog [(13, iN n), (12, .bool false), (4, sB []), (0, pT g), (1, iN n)] ((g, oC #[sB X, iN u] 29) :: ([] : Blks)) (opAt Tryd.f12 3 1) (mkOf (.slice none n n)) (.cells (cn .u8 (List.replicate n 0)) 5) ∧ ∀ bo, Kt [(5, .slice (some ⟨bo, 0, none⟩) n n), (4, sB []), (0, pT g), (1, iN n)] ((bo, .cells (cn .u8 (List.replicate n 0)) 5) :: (g, oC #[sB X, iN u] 29) :: ([] : Blks))) (by kernel_rfl) (fun _ => by kernel_rfl) (⟨(make_ok (t := 63) (e := 5) (p := (.tmp 13)) (q := (.tmp 13)) (by kernel_rfl) rfl rfl Tryd.underlying63 (by kernel_rfl) (by have := hn; omega)), fun bo => fun ac3 wd3 FF3 MM3 => then_n ?_⟩))
  have MMr10 : MemS (fun k => k < w0.heap.size ∧ ∀ x ∈ (g, oC #[sB X, iN u] 29) :: ([] : Blks), x.1 ≠ k) w0 wd3 ((bo, .cells (cn .u8 (genL n (fun j => (X.drop u).getD j 0) 0)) 5) :: (g, oC #[sB X, iN u] 29) :: ([] : Blks)) [] := by rw [← genL_zero n (fun j => (X.drop u).getD j 0)]; exact MM3
  refine wp_seq ?_
  refine wp_seq (rg_seq FF3 MMr10 [o_] [5, 4, 0, 1, 6] (fun Kt => Kt [(6, iN 0), (5, .slice (some ⟨bo, 0, none⟩) n n), (4, sB []), (0, pT g), (1, iN n)] ((bo, .cells (cn .u8 (genL n (fun j => (X.drop u).getD j 0) 0)) 5) :: (g, oC #[sB X, iN u] 29) :: ([] : Blks))) (by kernel_rfl) (fun _ => by kernel_rfl) (fun ac4 wd4 FF4 MM4 => then_n ?_))
  refine wp_for2 (fun a' w' => ∃ i : Nat, i ≤ n ∧ Fr 51 a' [(6, iN i), (5, .slice (some ⟨bo, 0, none⟩) n n), (4, sB []), (0, pT g), (1, iN n)] ∧ MemS (fun k => k < w0.heap.size ∧ ∀ x ∈ (g, oC #[sB X, iN u] 29) :: ([] : Blks), x.1 ≠ k) w0 w' ((bo, .cells (cn .u8 (genL n (fun j => (X.drop u).getD j 0) i)) 5) :: (g, oC #[sB X, iN (u + i)] 29) :: ([] : Blks)) []) (fun a' _ => (n - cnt 6 a').toNat) ⟨0, Nat.zero_le _, FF4.pick [0, 1, 2, 3, 4], MM4⟩ ?_
  rintro ac5 wd5 ⟨i, hi, FF5, MM5⟩
  have hc := cnt_of (FF5.get 0 rfl)
  refine rg_seq FF5 MM5 [o_, o_, o_] [6, 5, 4, 0, 1, 17] (fun Kt => Kt [(17, .bool (decide (i < n))), (6, iN i), (5, .slice (some ⟨bo, 0, none⟩) n n), (4, sB []), (0, pT g), (1, iN n)] ((bo, .cells (cn .u8 (genL n (fun j => (X.drop u).getD j 0) i)) 5) :: (g, oC #[sB X, iN (u + i)] 29) :: ([] : Blks))) (by kernel_rfl) (fun _ => by kernel_rfl) (fun ac6 wd6 FF6 MM6 => ?_)
  by_cases hlt : i < n
  · skip
    refine then_n (.inl ⟨(FF6.ev 0 rfl).trans (dec_t hlt), ?_⟩)
    refine wp_mid (fun a' w' => Fr 51 a' [(6, iN i), (5, .slice (some ⟨bo, 0, none⟩) n n), (4, sB []), (0, pT g), (1, iN n)] ∧ MemS (fun k => k < w0.heap.size ∧ ∀ x ∈ (g, oC #[sB X, iN u] 29) :: ([] : Blks), x.1 ≠ k) w0 w' ((bo, .cells (cn .u8 (genL n (fun j => (X.drop u).getD j 0) (i + 1))) 5) :: (g, oC #[sB X, iN (u + i)] 29) :: ([] : Blks)) []) ?_ ?_
    · skip
      refine wp_seq (rg_draw FF6 MM6 [.inl (pT g), .inl (pT g), .inl (.pointer (some ⟨g, 1, none⟩)), .inl (iN (u + i)), .inl (pT g), .inl (pT g), .inl (pT g), .inl (sB X), .inl (iN X.length), .inl (.bool (decide ((u + i) < X.length)))] [] [o_, o_, o_, l_ 1 (iN (u + i)), o_, o_, o_, l_ 1 (sB X), t_ (iN X.length), o_] [] [6, 5, 4, 0, 1, 29] (fun nb => [g = g, (#[sB X, iN (u + i)] : Array Value)[1]? = some (iN (u + i)), g = g, (#[sB X, iN (u + i)] : Array Value)[0]? = some (sB X), iN ((bs X).size) = iN X.length]) (fun nb Kt => Kt [(29, .bool (decide ((u + i) < X.length))), (6, iN i), (5, .slice (some ⟨bo, 0, none⟩) n n), (4, sB []), (0, pT g), (1, iN n)] ((bo, .cells (cn .u8 (genL n (fun j => (X.drop u).getD j 0) i)) 5) :: (g, oC #[sB X, iN (u + i)] 29) :: ([] : Blks))) (by kernel_rfl) (by kernel_rfl) (by kernel_rfl) (fun _ => by kernel_rfl) (fun _ _ => by kernel_rfl) trivial (fun nb => ⟨rfl, rfl, rfl, rfl, (vI (bs_size _)), trivial⟩) (fun nb => fun ac7 wd7 FF7 MM7 => then_n ?_))
      by_cases hs29 : (u + i) < X.length
      · refine wp_cond_true ((FF7.ev 0 rfl).trans (dec_t hs29)) ?_
        refine rg_draw FF7 MM7 [.inl (.slice (some ⟨bo, 0, none⟩) n n), .inl (iN i), .inl (pT g), .inl (pT g), .inl (pT g), .inl (sB X), .inl (pT g), .inl (pT g), .inl (.pointer (some ⟨g, 1, none⟩)), .inl (iN (u + i)), .inl (iB ((X.drop u).getD i 0)), .inl (.pointer (some ⟨bo, i, none⟩))] [] [o_, o_, o_, o_, o_, l_ 1 (sB X), o_, o_, o_, l_ 1 (iN (u + i)), t_ (iB ((X.drop u).getD i 0)), w_ 1] [s_ 0 (.cells (cn .u8 (genL n (fun j => (X.drop u).getD j 0) (i + 1))) 5)] [6, 5, 4, 0, 1] (fun nb => [g = g, (#[sB X, iN (u + i)] : Array Value)[0]? = some (sB X), g = g, (#[sB X, iN (u + i)] : Array Value)[1]? = some (iN (u + i)), (u + i) < (bs X).size, (nl (bs X)).getD (u + i) 0 = (X.drop u).getD i 0, i < n]) (fun nb Kt => bo = bo ∧ i < (cn .u8 (genL n (fun j => (X.drop u).getD j 0) i)).size ∧ (((0, 0)).2 = 0 ∨ i < ((0, 0)).1) ∧ (cn .u8 (genL n (fun j => (X.drop u).getD j 0) i)).setIfInBounds i (iB ((X.drop u).getD i 0)) = cn .u8 (genL n (fun j => (X.drop u).getD j 0) (i + 1)) ∧ Kt [(6, iN i), (5, .slice (some ⟨bo, 0, none⟩) n n), (4, sB []), (0, pT g), (1, iN n)] ((bo, .cells (cn .u8 (genL n (fun j => (X.drop u).getD j 0) (i + 1))) 5) :: (g, oC #[sB X, iN (u + i)] 29) :: ([] : Blks))) (by kernel_rfl) (by kernel_rfl) (by kernel_rfl) (fun _ => by kernel_rfl) (fun _ _ => by kernel_rfl) trivial (fun nb => ⟨rfl, rfl, rfl, rfl, (by rw [bs_size]; exact hs29), ((byte_bs hX _).trans (dropD X u i).symm), (by omega), trivial⟩) (fun nb => ⟨rfl, (by rw [cn_size, (genL_len _ _ _)]; omega), (.inl rfl), ((cn_set _ _ _ _).trans (congrArg _ (genL_step _ _ i (by omega) rfl))), fun ac8 wd8 FF8 MM8 => ?_⟩)
        refine then_n ?_
        exact ⟨FF8.pick [0, 1, 2, 3, 4], MM8⟩
      · refine wp_cond_false ((FF7.ev 0 rfl).trans (dec_f hs29)) ?_
        have MMr29 : MemS (fun k => k < w0.heap.size ∧ ∀ x ∈ (g, oC #[sB X, iN u] 29) :: ([] : Blks), x.1 ≠ k) w0 wd7 ((bo, .cells (cn .u8 (genL n (fun j => (X.drop u).getD j 0) (i + 1))) 5) :: (g, oC #[sB X, iN (u + i)] 29) :: ([] : Blks)) [] := by rw [tk_zero (X := X.drop u) (by simp; omega) hlt]; exact MM7
        refine wp_skip ?_
        refine then_n ?_
        exact ⟨FF7.pick [1, 2, 3, 4, 5], MMr29⟩
    · rintro ac9 wd9 ⟨FF9, MM9⟩
      refine rg_seq FF9 MM9 [o_, o_, o_, l_ 1 (iN (u + i)), o_, o_, o_, s_ 1 (oC #[sB X, iN ((u + i) + 1)] 29)] [6, 5, 4, 0, 1] (fun Kt => g = g ∧ (#[sB X, iN (u + i)] : Array Value)[1]? = some (iN (u + i)) ∧ (u + i) + 1 < 9223372036854775808 ∧ g = g ∧ 1 < (#[sB X, iN (u + i)] : Array Value).size ∧ (((0, 0)).2 = 0 ∨ 1 < ((0, 0)).1) ∧ (#[sB X, iN (u + i)] : Array Value).setIfInBounds 1 (iN ((u + i) + 1)) = #[sB X, iN ((u + i) + 1)] ∧ Kt [(6, iN i), (5, .slice (some ⟨bo, 0, none⟩) n n), (4, sB []), (0, pT g), (1, iN n)] ((bo, .cells (cn .u8 (genL n (fun j => (X.drop u).getD j 0) (i + 1))) 5) :: (g, oC #[sB X, iN ((u + i) + 1)] 29) :: ([] : Blks))) (by kernel_rfl) (fun _ => by kernel_rfl) (⟨rfl, rfl, (by omega), rfl, (by simp), (.inl rfl), rfl, fun ac10 wd10 FF10 MM10 => ?_⟩)
      refine inb_n (then_n ?_)
      refine rg_seq FF10 MM10 [o_, o_, o_] [6, 5, 4, 0, 1] (fun Kt => i + 1 < 9223372036854775808 ∧ Kt [(6, iN (i + 1)), (5, .slice (some ⟨bo, 0, none⟩) n n), (4, sB []), (0, pT g), (1, iN n)] ((bo, .cells (cn .u8 (genL n (fun j => (X.drop u).getD j 0) (i + 1))) 5) :: (g, oC #[sB X, iN ((u + i) + 1)] 29) :: ([] : Blks))) (by kernel_rfl) (fun _ => by kernel_rfl) (⟨(by omega), fun ac11 wd11 FF11 MM11 => ?_⟩)
      have hd := cnt_of (FF11.get 0 rfl)
      refine then_n ⟨⟨i + 1, by omega, FF11.pick [0, 1, 2, 3, 4], MM11⟩, ?_⟩
      rw [hc, hd]; omega
  · skip
    refine then_n (.inr ⟨(FF6.ev 0 rfl).trans (dec_f hlt), ?_⟩)
    obtain rfl : n = i := by omega
    have MMl : MemS (fun k => k < w0.heap.size ∧ ∀ x ∈ (g, oC #[sB X, iN u] 29) :: ([] : Blks), x.1 ≠ k) w0 wd6 ((bo, .cells (cn .u8 (takN n (X.drop u))) 5) :: (g, oC #[sB X, iN (u + n)] 29) :: ([] : Blks)) [] := by rw [← tkI_end n (X.drop u)]; exact MM6
    refine then_n ?_
    refine wp_seq (rg_seq FF6 MMl [o_, l_ 0 (sB (takN n (X.drop u))), o_] [6, 5, 4, 0, 1] (fun Kt => bo = bo ∧ StrAt (cn .u8 (takN n (X.drop u))) 0 n (bs (takN n (X.drop u))) ∧ Kt [(4, sB (takN n (X.drop u))), (6, iN n), (5, .slice (some ⟨bo, 0, none⟩) n n), (0, pT g), (1, iN n)] ((bo, .cells (cn .u8 (takN n (X.drop u))) 5) :: (g, oC #[sB X, iN (u + n)] 29) :: ([] : Blks))) (by kernel_rfl) (fun _ => by kernel_rfl) (⟨rfl, (str_all (takN_len _ _) (takN_lt (dropX_lt hX u) n)), fun ac12 wd12 FF12 MM12 => then_n ?_⟩))
    refine wp_ret ?_
    repeat first | refine then_ret ?_ | refine inb_ret ?_
    exact (ret_fr FF12 0 Tryd.results12 rfl ⟨rfl, MM12.turn (O := []) (fun i x hx => by simp at hx) 1 rfl (fun x hx => (nomatch hx))⟩)
set_option maxRecDepth 100000 in
theorem rtake_neg (g : Nat) (z : Int) (hz : z < 0) (w0 : World) :
    Calls Tryd.prog 12 #[pT g, .int .i64 z] w0 fun e w' => e = .returned (sB []) ∧ Below w0.heap.size w0 w' := by
  refine enter_fr Tryd.func12 rfl Tryd.ntmps12 (by simp) fun ac (FF : Fr 51 ac [(0, pT g), (1, .int .i64 (z : Int))]) => ?_
  have MM := MemS.start w0
  refine wp_seq (rg_seq FF MM [o_] [0, 1, 4] (fun Kt => Kt [(4, sB []), (0, pT g), (1, .int .i64 (z : Int))] []) (by kernel_rfl) (fun _ => by kernel_rfl) (fun ac1 wd1 FF1 MM1 => then_n ?_))
  refine wp_seq ?_
  refine wp_seq (rg_seq FF1 MM1 [o_, w_ 6, o_, o_, o_, o_] [4, 0, 1, 12] (fun Kt => z < ((0 : Nat) : Int) ∧ Kt [(12, .bool true), (4, sB []), (0, pT g), (1, .int .i64 (z : Int))] []) (by kernel_rfl) (fun _ => by kernel_rfl) (⟨hz, fun ac2 wd2 FF2 MM2 => then_n ?_⟩))
  refine wp_cond_true (FF2.ev 0 rfl) ?_
  refine wp_seq (rg_seq FF2 MM2 [o_] [4, 0, 1] (fun Kt => Kt [(4, sB []), (0, pT g), (1, .int .i64 (z : Int))] []) (by kernel_rfl) (fun _ => by kernel_rfl) (fun ac3 wd3 FF3 MM3 => then_n ?_))
  refine wp_ret ?_
  repeat first | refine then_ret ?_ | refine inb_ret ?_
  exact (ret_fr FF3 0 Tryd.results12 rfl ⟨rfl, MM3.below⟩)
set_option maxRecDepth 100000 in
theorem rtake_big (g : Nat) (z : Int) (hz : z > 65536) (w0 : World) :
    Calls Tryd.prog 12 #[pT g, .int .i64 z] w0 fun e w' => e = .returned (sB []) ∧ Below w0.heap.size w0 w' := by
  refine enter_fr Tryd.func12 rfl Tryd.ntmps12 (by simp) fun ac (FF : Fr 51 ac [(0, pT g), (1, .int .i64 (z : Int))]) => ?_
  have MM := MemS.start w0
  refine wp_seq (rg_seq FF MM [o_] [0, 1, 4] (fun Kt => Kt [(4, sB []), (0, pT g), (1, .int .i64 (z : Int))] []) (by kernel_rfl) (fun _ => by kernel_rfl) (fun ac1 wd1 FF1 MM1 => then_n ?_))
  refine wp_seq ?_
  refine wp_seq (rg_seq FF1 MM1 [o_, u_ 4 (.bool false), o_, o_, w_ 6, o_] [4, 0, 1, 12] (fun Kt => Value.bool (decide (z < ((0 : Nat) : Int))) = .bool false ∧ z > ((65536 : Nat) : Int) ∧ Kt [(12, .bool true), (4, sB []), (0, pT g), (1, .int .i64 (z : Int))] []) (by kernel_rfl) (fun _ => by kernel_rfl) (⟨(dec_f (by omega)), hz, fun ac2 wd2 FF2 MM2 => then_n ?_⟩))
  refine wp_cond_true (FF2.ev 0 rfl) ?_
  refine wp_seq (rg_seq FF2 MM2 [o_] [4, 0, 1] (fun Kt => Kt [(4, sB []), (0, pT g), (1, .int .i64 (z : Int))] []) (by kernel_rfl) (fun _ => by kernel_rfl) (fun ac3 wd3 FF3 MM3 => then_n ?_))
  refine wp_ret ?_
  repeat first | refine then_ret ?_ | refine inb_ret ?_
  exact (ret_fr FF3 0 Tryd.results12 rfl ⟨rfl, MM3.below⟩)
set_option maxRecDepth 100000 in
theorem rkey_any (g : Nat) (X : List Nat) (u : Nat) (hX : ∀ i, X.getD i 0 < 256) (hu : u < 4611686018427387904)  (w0 : World) (hg : w0.heap[g]? = some (RB X u)) :
    Calls Tryd.prog 14 #[pT g] w0 fun e w' => e = .returned (.agg (cn .u8 (takN 32 (X.drop u)))) ∧ Turn g (RB X (u + 32)) w0 w' := by
  refine enter_fr Tryd.func14 rfl Tryd.ntmps14 (by simp) fun ac (FF : Fr 10 ac [(0, pT g)]) => ?_
  have MM : MemS (fun k => k < w0.heap.size ∧ ∀ x ∈ (g, oC #[sB X, iN u] 29) :: ([] : Blks), x.1 ≠ k) w0 w0 ((g, oC #[sB X, iN u] 29) :: ([] : Blks)) [] := MemS.startN (one_has hg) ⟨fun y hy => (nomatch hy), trivial⟩
  refine wp_seq (rg_seq FF MM [o_] [0, 2] (fun Kt => ∀ br, Kt [(2, pT br), (0, pT g)] ((br, .cells (cn .u8 (List.replicate 32 0)) 33) :: (g, oC #[sB X, iN u] 29) :: ([] : Blks))) (by kernel_rfl) (fun _ => by kernel_rfl) (fun br => fun ac1 wd1 FF1 MM1 => then_n ?_))
  refine wp_seq (rg_seq FF1 MM1 [o_, o_, b_ 0] [2, 0, 3] (fun Kt => ∀ bk, bk = bk ∧ (cn .u8 (List.replicate 32 0)).size = 32 ∧ (cn .u8 (List.replicate 32 0)).size = 32 ∧ (cn .u8 (List.replicate 32 0)).all (·.oneCell') = true ∧ (0, 0).2 = 0 ∧ Kt [(3, pT bk), (2, pT br), (0, pT g)] ((bk, .cells (cn .u8 (List.replicate 32 0)) 33) :: (br, .cells (cn .u8 (List.replicate 32 0)) 33) :: (g, oC #[sB X, iN u] 29) :: ([] : Blks))) (by kernel_rfl) (fun _ => by kernel_rfl) (fun bk => ⟨rfl, ((cn_size _ _).trans (List.length_replicate ..)), ((cn_size _ _).trans (List.length_replicate ..)), (cn_one _ _), rfl, fun ac2 wd2 FF2 MM2 => then_n ?_⟩))
  refine wp_mid (fun a' w' => Fr 10 a' [(3, pT bk), (2, pT br)] ∧ MemS (fun k => k < w0.heap.size ∧ ∀ x ∈ (g, oC #[sB X, iN u] 29) :: ([] : Blks), x.1 ≠ k) w0 w' ((bk, .cells (cn .u8 (takN 32 (X.drop u))) 33) :: (br, .cells (cn .u8 (List.replicate 32 0)) 33) :: (g, oC #[sB X, iN (u + 32)] 29) :: ([] : Blks)) []) ?_ ?_
  · skip
    refine draw_open (N := 4) (by kernel_rfl) (by kernel_rfl) MM2 fun wq3 (MM4 : MemS (fun k => k < w0.heap.size ∧ ∀ x ∈ (g, oC #[sB X, iN u] 29) :: ([] : Blks), x.1 ≠ k) w0 wq3 ((bk, .cells (cn .u8 (List.replicate 32 0)) 33) :: (br, .cells (cn .u8 (List.replicate 32 0)) 33) :: (g, oC #[sB X, iN u] 29) :: ([] : Blks)) []) => ?_
    refine take_op FF2 (i := 1) (oi := (opAt Tryd.f14 2 1)) (v := (pT g)) (d := 6) (by kernel_rfl) (by kernel_rfl) (by kernel_rfl) (by kernel_rfl) (fun _ _ _ _ _ h => h) (by kernel_rfl) (by decide) (by kernel_rfl) (mvV (x := (.tmp 0)) (by kernel_rfl) rfl) fun ac5 FF5 => ?_
    refine any_two (i := 0) (oi := (opAt Tryd.f14 2 0)) (j := 2) (oj := (opAt Tryd.f14 2 2)) (by kernel_rfl) (by kernel_rfl) (by kernel_rfl) ?_ ?_
    · skip
      refine rg_part 1 FF5 MM4 [o_] [6, 3, 2, 5] (fun Kt => 0 ≤ 32 ∧ 32 ≤ 32 ∧ 0 < 32 ∧ Kt [(5, .slice (some ⟨bk, 0, none⟩) 32 32), (6, pT g), (3, pT bk), (2, pT br)] ((bk, .cells (cn .u8 (List.replicate 32 0)) 33) :: (br, .cells (cn .u8 (List.replicate 32 0)) 33) :: (g, oC #[sB X, iN u] 29) :: ([] : Blks))) (by kernel_rfl) (fun _ => by kernel_rfl) (⟨(by decide), (by decide), (by decide), fun ac6 wd6 FF6 MM6 => ?_⟩)
      refine wpl_nil (onN_n ?_)
      refine any_one (i := 2) (o := (opAt Tryd.f14 2 2)) (by kernel_rfl) (by kernel_rfl) ?_
      refine rg_part 1 FF6 MM6 [c_ (sB (takN 32 (X.drop u))) [(2, oC #[sB X, iN (u + 32)] 29)]] [5, 3, 2, 7] (fun Kt => CallU Tryd.prog 12 [pT g, iN 32] ((bk, .cells (cn .u8 (List.replicate 32 0)) 33) :: (br, .cells (cn .u8 (List.replicate 32 0)) 33) :: (g, oC #[sB X, iN u] 29) :: ([] : Blks)) (sB (takN 32 (X.drop u))) [(2, oC #[sB X, iN (u + 32)] 29)] ∧ Kt [(7, sB (takN 32 (X.drop u))), (5, .slice (some ⟨bk, 0, none⟩) 32 32), (3, pT bk), (2, pT br)] ((bk, .cells (cn .u8 (List.replicate 32 0)) 33) :: (br, .cells (cn .u8 (List.replicate 32 0)) 33) :: (g, oC #[sB X, iN (u + 32)] 29) :: ([] : Blks))) (by kernel_rfl) (fun _ => by kernel_rfl) (⟨(callU_turn en_rtake (g := g) (ob := RB X u) rfl fun w hg => by have h0 := rtake_any g 32 X u hX (by omega) (by decide) w hg; exact h0), fun ac7 wd7 FF7 MM7 => ?_⟩)
      refine wpl_nil (onN_n ?_)
      refine any_one (i := 3) (o := (opAt Tryd.f14 2 3)) (by kernel_rfl) (by kernel_rfl) ?_
      refine rg_part 1 FF7 MM7 [r_ (iN (min (takN 32 (X.drop u)).length 32)) [(0, .cells (cn .u8 (takN 32 (X.drop u))) 33)]] [3, 2] (fun Kt => RunU Tryd.prog [(7, sB (takN 32 (X.drop u))), (5, .slice (some ⟨bk, 0, none⟩) 32 32), (3, pT bk), (2, pT br)] ((bk, .cells (cn .u8 (List.replicate 32 0)) 33) :: (br, .cells (cn .u8 (List.replicate 32 0)) 33) :: (g, oC #[sB X, iN (u + 32)] 29) :: ([] : Blks)) (opAt Tryd.f14 2 3) (iN (min (takN 32 (X.drop u)).length 32)) [(0, .cells (cn .u8 (takN 32 (X.drop u))) 33)] ∧ Kt [(3, pT bk), (2, pT br)] ((bk, .cells (cn .u8 (takN 32 (X.drop u))) 33) :: (br, .cells (cn .u8 (List.replicate 32 0)) 33) :: (g, oC #[sB X, iN (u + 32)] 29) :: ([] : Blks))) (by kernel_rfl) (fun _ => by kernel_rfl) (⟨(copyStr_ok (p := .tmp 5) (q := .tmp 7) (t := 63) (tq := 9) (e := 5) (T := 33) (off := 0) (len := 32) (X := takN 32 (X.drop u)) (cs := cn .u8 (List.replicate 32 0)) (i := 0) (by kernel_rfl) rfl rfl (takN_lt (dropX_lt hX u) 32) Tryd.underlying63 (by kernel_rfl) rfl (by rw [cn_size, List.length_replicate]; decide) (by rw [List.take_of_length_le (by rw [takN_len]; decide)]; exact setFrom_new8 (by rw [List.length_replicate, takN_len]))), fun ac8 wd8 FF8 MM8 => ?_⟩)
      refine wpl_nil (onN_n ?_)
      refine any_none (by kernel_rfl) (then_n ?_)
      exact ⟨FF8.pick [0, 1], MM8⟩
    · skip
      refine rg_part 1 FF5 MM4 [c_ (sB (takN 32 (X.drop u))) [(2, oC #[sB X, iN (u + 32)] 29)]] [3, 2, 7] (fun Kt => CallU Tryd.prog 12 [pT g, iN 32] ((bk, .cells (cn .u8 (List.replicate 32 0)) 33) :: (br, .cells (cn .u8 (List.replicate 32 0)) 33) :: (g, oC #[sB X, iN u] 29) :: ([] : Blks)) (sB (takN 32 (X.drop u))) [(2, oC #[sB X, iN (u + 32)] 29)] ∧ Kt [(7, sB (takN 32 (X.drop u))), (3, pT bk), (2, pT br)] ((bk, .cells (cn .u8 (List.replicate 32 0)) 33) :: (br, .cells (cn .u8 (List.replicate 32 0)) 33) :: (g, oC #[sB X, iN (u + 32)] 29) :: ([] : Blks))) (by kernel_rfl) (fun _ => by kernel_rfl) (⟨(callU_turn en_rtake (g := g) (ob := RB X u) rfl fun w hg => by have h0 := rtake_any g 32 X u hX (by omega) (by decide) w hg; exact h0), fun ac9 wd9 FF9 MM9 => ?_⟩)
      refine wpl_nil (onN_n ?_)
      refine any_one (i := 0) (o := (opAt Tryd.f14 2 0)) (by kernel_rfl) (by kernel_rfl) ?_
      refine rg_part 1 FF9 MM9 [o_] [7, 3, 2, 5] (fun Kt => 0 ≤ 32 ∧ 32 ≤ 32 ∧ 0 < 32 ∧ Kt [(5, .slice (some ⟨bk, 0, none⟩) 32 32), (7, sB (takN 32 (X.drop u))), (3, pT bk), (2, pT br)] ((bk, .cells (cn .u8 (List.replicate 32 0)) 33) :: (br, .cells (cn .u8 (List.replicate 32 0)) 33) :: (g, oC #[sB X, iN (u + 32)] 29) :: ([] : Blks))) (by kernel_rfl) (fun _ => by kernel_rfl) (⟨(by decide), (by decide), (by decide), fun ac10 wd10 FF10 MM10 => ?_⟩)
      refine wpl_nil (onN_n ?_)
      refine any_one (i := 3) (o := (opAt Tryd.f14 2 3)) (by kernel_rfl) (by kernel_rfl) ?_
      refine rg_part 1 FF10 MM10 [r_ (iN (min (takN 32 (X.drop u)).length 32)) [(0, .cells (cn .u8 (takN 32 (X.drop u))) 33)]] [3, 2] (fun Kt => RunU Tryd.prog [(5, .slice (some ⟨bk, 0, none⟩) 32 32), (7, sB (takN 32 (X.drop u))), (3, pT bk), (2, pT br)] ((bk, .cells (cn .u8 (List.replicate 32 0)) 33) :: (br, .cells (cn .u8 (List.replicate 32 0)) 33) :: (g, oC #[sB X, iN (u + 32)] 29) :: ([] : Blks)) (opAt Tryd.f14 2 3) (iN (min (takN 32 (X.drop u)).length 32)) [(0, .cells (cn .u8 (takN 32 (X.drop u))) 33)] ∧ Kt [(3, pT bk), (2, pT br)] ((bk, .cells (cn .u8 (takN 32 (X.drop u))) 33) :: (br, .cells (cn .u8 (List.replicate 32 0)) 33) :: (g, oC #[sB X, iN (u + 32)] 29) :: ([] : Blks))) (by kernel_rfl) (fun _ => by kernel_rfl) (⟨(copyStr_ok (p := .tmp 5) (q := .tmp 7) (t := 63) (tq := 9) (e := 5) (T := 33) (off := 0) (len := 32) (X := takN 32 (X.drop u)) (cs := cn .u8 (List.replicate 32 0)) (i := 0) (by kernel_rfl) rfl rfl (takN_lt (dropX_lt hX u) 32) Tryd.underlying63 (by kernel_rfl) rfl (by rw [cn_size, List.length_replicate]; decide) (by rw [List.take_of_length_le (by rw [takN_len]; decide)]; exact setFrom_new8 (by rw [List.length_replicate, takN_len]))), fun ac11 wd11 FF11 MM11 => ?_⟩)
      refine wpl_nil (onN_n ?_)
      refine any_none (by kernel_rfl) (then_n ?_)
      exact ⟨FF11.pick [0, 1], MM11⟩
  · rintro ac12 wd12 ⟨FF12, MM12⟩
    refine wp_seq (rg_seq FF12 MM12 [b_ 0, b_ 1] [3, 2] (fun Kt => bk = bk ∧ (cn .u8 (takN 32 (X.drop u))).size = 32 ∧ br = br ∧ (cn .u8 (List.replicate 32 0)).size = 32 ∧ (cn .u8 (takN 32 (X.drop u))).size = 32 ∧ (cn .u8 (takN 32 (X.drop u))).all (·.oneCell') = true ∧ (0, 0).2 = 0 ∧ Kt [(3, pT bk), (2, pT br)] ((bk, .cells (cn .u8 (takN 32 (X.drop u))) 33) :: (br, .cells (cn .u8 (takN 32 (X.drop u))) 33) :: (g, oC #[sB X, iN (u + 32)] 29) :: ([] : Blks))) (by kernel_rfl) (fun _ => by kernel_rfl) (⟨rfl, ((cn_size _ _).trans (takN_len _ _)), rfl, ((cn_size _ _).trans (List.length_replicate ..)), ((cn_size _ _).trans (takN_len _ _)), (cn_one _ _), rfl, fun ac13 wd13 FF13 MM13 => then_n ?_⟩))
    refine wp_ret ?_
    repeat first | refine then_ret ?_ | refine inb_ret ?_
    exact (retc FF13 MM13 (k := 32) (i := 1) (j := 1) Tryd.results14 rfl rfl Tryd.underlying33 rfl (by kernel_rfl) ((cn_size _ _).trans (takN_len _ _)) ⟨rfl, MM13.turn (O := []) (fun i x hx => by simp at hx) 2 rfl (fun x hx => (nomatch hx))⟩)
set_option maxRecDepth 100000 in
theorem rid__any (g : Nat) (X : List Nat) (u : Nat) (hX : ∀ i, X.getD i 0 < 256) (hu : u < 4611686018427387904)  (w0 : World) (hg : w0.heap[g]? = some (RB X u)) :
    Calls Tryd.prog 16 #[pT g] w0 fun e w' => e = .returned (.agg (cn .u8 (takN 16 (X.drop u)))) ∧ Turn g (RB X (u + 16)) w0 w' := by
  refine enter_fr Tryd.func16 rfl Tryd.ntmps16 (by simp) fun ac (FF : Fr 10 ac [(0, pT g)]) => ?_
  have MM : MemS (fun k => k < w0.heap.size ∧ ∀ x ∈ (g, oC #[sB X, iN u] 29) :: ([] : Blks), x.1 ≠ k) w0 w0 ((g, oC #[sB X, iN u] 29) :: ([] : Blks)) [] := MemS.startN (one_has hg) ⟨fun y hy => (nomatch hy), trivial⟩
  refine wp_seq (rg_seq FF MM [o_] [0, 2] (fun Kt => ∀ br, Kt [(2, pT br), (0, pT g)] ((br, .cells (cn .u8 (List.replicate 16 0)) 37) :: (g, oC #[sB X, iN u] 29) :: ([] : Blks))) (by kernel_rfl) (fun _ => by kernel_rfl) (fun br => fun ac1 wd1 FF1 MM1 => then_n ?_))
  refine wp_seq (rg_seq FF1 MM1 [o_, o_, b_ 0] [2, 0, 3] (fun Kt => ∀ bk, bk = bk ∧ (cn .u8 (List.replicate 16 0)).size = 16 ∧ (cn .u8 (List.replicate 16 0)).size = 16 ∧ (cn .u8 (List.replicate 16 0)).all (·.oneCell') = true ∧ (0, 0).2 = 0 ∧ Kt [(3, pT bk), (2, pT br), (0, pT g)] ((bk, .cells (cn .u8 (List.replicate 16 0)) 37) :: (br, .cells (cn .u8 (List.replicate 16 0)) 37) :: (g, oC #[sB X, iN u] 29) :: ([] : Blks))) (by kernel_rfl) (fun _ => by kernel_rfl) (fun bk => ⟨rfl, ((cn_size _ _).trans (List.length_replicate ..)), ((cn_size _ _).trans (List.length_replicate ..)), (cn_one _ _), rfl, fun ac2 wd2 FF2 MM2 => then_n ?_⟩))
  refine wp_mid (fun a' w' => Fr 10 a' [(3, pT bk), (2, pT br)] ∧ MemS (fun k => k < w0.heap.size ∧ ∀ x ∈ (g, oC #[sB X, iN u] 29) :: ([] : Blks), x.1 ≠ k) w0 w' ((bk, .cells (cn .u8 (takN 16 (X.drop u))) 37) :: (br, .cells (cn .u8 (List.replicate 16 0)) 37) :: (g, oC #[sB X, iN (u + 16)] 29) :: ([] : Blks)) []) ?_ ?_
  · skip
    refine draw_open (N := 4) (by kernel_rfl) (by kernel_rfl) MM2 fun wq3 (MM4 : MemS (fun k => k < w0.heap.size ∧ ∀ x ∈ (g, oC #[sB X, iN u] 29) :: ([] : Blks), x.1 ≠ k) w0 wq3 ((bk, .cells (cn .u8 (List.replicate 16 0)) 37) :: (br, .cells (cn .u8 (List.replicate 16 0)) 37) :: (g, oC #[sB X, iN u] 29) :: ([] : Blks)) []) => ?_
    refine take_op FF2 (i := 1) (oi := (opAt Tryd.f16 2 1)) (v := (pT g)) (d := 6) (by kernel_rfl) (by kernel_rfl) (by kernel_rfl) (by kernel_rfl) (fun _ _ _ _ _ h => h) (by kernel_rfl) (by decide) (by kernel_rfl) (mvV (x := (.tmp 0)) (by kernel_rfl) rfl) fun ac5 FF5 => ?_
    refine any_two (i := 0) (oi := (opAt Tryd.f16 2 0)) (j := 2) (oj := (opAt Tryd.f16 2 2)) (by kernel_rfl) (by kernel_rfl) (by kernel_rfl) ?_ ?_
    · skip
      refine rg_part 1 FF5 MM4 [o_] [6, 3, 2, 5] (fun Kt => 0 ≤ 16 ∧ 16 ≤ 16 ∧ 0 < 16 ∧ Kt [(5, .slice (some ⟨bk, 0, none⟩) 16 16), (6, pT g), (3, pT bk), (2, pT br)] ((bk, .cells (cn .u8 (List.replicate 16 0)) 37) :: (br, .cells (cn .u8 (List.replicate 16 0)) 37) :: (g, oC #[sB X, iN u] 29) :: ([] : Blks))) (by kernel_rfl) (fun _ => by kernel_rfl) (⟨(by decide), (by decide), (by decide), fun ac6 wd6 FF6 MM6 => ?_⟩)
      refine wpl_nil (onN_n ?_)
      refine any_one (i := 2) (o := (opAt Tryd.f16 2 2)) (by kernel_rfl) (by kernel_rfl) ?_
      refine rg_part 1 FF6 MM6 [c_ (sB (takN 16 (X.drop u))) [(2, oC #[sB X, iN (u + 16)] 29)]] [5, 3, 2, 7] (fun Kt => CallU Tryd.prog 12 [pT g, iN 16] ((bk, .cells (cn .u8 (List.replicate 16 0)) 37) :: (br, .cells (cn .u8 (List.replicate 16 0)) 37) :: (g, oC #[sB X, iN u] 29) :: ([] : Blks)) (sB (takN 16 (X.drop u))) [(2, oC #[sB X, iN (u + 16)] 29)] ∧ Kt [(7, sB (takN 16 (X.drop u))), (5, .slice (some ⟨bk, 0, none⟩) 16 16), (3, pT bk), (2, pT br)] ((bk, .cells (cn .u8 (List.replicate 16 0)) 37) :: (br, .cells (cn .u8 (List.replicate 16 0)) 37) :: (g, oC #[sB X, iN (u + 16)] 29) :: ([] : Blks))) (by kernel_rfl) (fun _ => by kernel_rfl) (⟨(callU_turn en_rtake (g := g) (ob := RB X u) rfl fun w hg => by have h0 := rtake_any g 16 X u hX (by omega) (by decide) w hg; exact h0), fun ac7 wd7 FF7 MM7 => ?_⟩)
      refine wpl_nil (onN_n ?_)
      refine any_one (i := 3) (o := (opAt Tryd.f16 2 3)) (by kernel_rfl) (by kernel_rfl) ?_
      refine rg_part 1 FF7 MM7 [r_ (iN (min (takN 16 (X.drop u)).length 16)) [(0, .cells (cn .u8 (takN 16 (X.drop u))) 37)]] [3, 2] (fun Kt => RunU Tryd.prog [(7, sB (takN 16 (X.drop u))), (5, .slice (some ⟨bk, 0, none⟩) 16 16), (3, pT bk), (2, pT br)] ((bk, .cells (cn .u8 (List.replicate 16 0)) 37) :: (br, .cells (cn .u8 (List.replicate 16 0)) 37) :: (g, oC #[sB X, iN (u + 16)] 29) :: ([] : Blks)) (opAt Tryd.f16 2 3) (iN (min (takN 16 (X.drop u)).length 16)) [(0, .cells (cn .u8 (takN 16 (X.drop u))) 37)] ∧ Kt [(3, pT bk), (2, pT br)] ((bk, .cells (cn .u8 (takN 16 (X.drop u))) 37) :: (br, .cells (cn .u8 (List.replicate 16 0)) 37) :: (g, oC #[sB X, iN (u + 16)] 29) :: ([] : Blks))) (by kernel_rfl) (fun _ => by kernel_rfl) (⟨(copyStr_ok (p := .tmp 5) (q := .tmp 7) (t := 63) (tq := 9) (e := 5) (T := 37) (off := 0) (len := 16) (X := takN 16 (X.drop u)) (cs := cn .u8 (List.replicate 16 0)) (i := 0) (by kernel_rfl) rfl rfl (takN_lt (dropX_lt hX u) 16) Tryd.underlying63 (by kernel_rfl) rfl (by rw [cn_size, List.length_replicate]; decide) (by rw [List.take_of_length_le (by rw [takN_len]; decide)]; exact setFrom_new8 (by rw [List.length_replicate, takN_len]))), fun ac8 wd8 FF8 MM8 => ?_⟩)
      refine wpl_nil (onN_n ?_)
      refine any_none (by kernel_rfl) (then_n ?_)
      exact ⟨FF8.pick [0, 1], MM8⟩
    · skip
      refine rg_part 1 FF5 MM4 [c_ (sB (takN 16 (X.drop u))) [(2, oC #[sB X, iN (u + 16)] 29)]] [3, 2, 7] (fun Kt => CallU Tryd.prog 12 [pT g, iN 16] ((bk, .cells (cn .u8 (List.replicate 16 0)) 37) :: (br, .cells (cn .u8 (List.replicate 16 0)) 37) :: (g, oC #[sB X, iN u] 29) :: ([] : Blks)) (sB (takN 16 (X.drop u))) [(2, oC #[sB X, iN (u + 16)] 29)] ∧ Kt [(7, sB (takN 16 (X.drop u))), (3, pT bk), (2, pT br)] ((bk, .cells (cn .u8 (List.replicate 16 0)) 37) :: (br, .cells (cn .u8 (List.replicate 16 0)) 37) :: (g, oC #[sB X, iN (u + 16)] 29) :: ([] : Blks))) (by kernel_rfl) (fun _ => by kernel_rfl) (⟨(callU_turn en_rtake (g := g) (ob := RB X u) rfl fun w hg => by have h0 := rtake_any g 16 X u hX (by omega) (by decide) w hg; exact h0), fun ac9 wd9 FF9 MM9 => ?_⟩)
      refine wpl_nil (onN_n ?_)
      refine any_one (i := 0) (o := (opAt Tryd.f16 2 0)) (by kernel_rfl) (by kernel_rfl) ?_
      refine rg_part 1 FF9 MM9 [o_] [7, 3, 2, 5] (fun Kt => 0 ≤ 16 ∧ 16 ≤ 16 ∧ 0 < 16 ∧ Kt [(5, .slice (some ⟨bk, 0, none⟩) 16 16), (7, sB (takN 16 (X.drop u))), (3, pT bk), (2, pT br)] ((bk, .cells (cn .u8 (List.replicate 16 0)) 37) :: (br, .cells (cn .u8 (List.replicate 16 0)) 37) :: (g, oC #[sB X, iN (u + 16)] 29) :: ([] : Blks))) (by kernel_rfl) (fun _ => by kernel_rfl) (⟨(by decide), (by decide), (by decide), fun ac10 wd10 FF10 MM10 => ?_⟩)
      refine wpl_nil (onN_n ?_)
      refine any_one (i := 3) (o := (opAt Tryd.f16 2 3)) (by kernel_rfl) (by kernel_rfl) ?_
      refine rg_part 1 FF10 MM10 [r_ (iN (min (takN 16 (X.drop u)).length 16)) [(0, .cells (cn .u8 (takN 16 (X.drop u))) 37)]] [3, 2] (fun Kt => RunU Tryd.prog [(5, .slice (some ⟨bk, 0, none⟩) 16 16), (7, sB (takN 16 (X.drop u))), (3, pT bk), (2, pT br)] ((bk, .cells (cn .u8 (List.replicate 16 0)) 37) :: (br, .cells (cn .u8 (List.replicate 16 0)) 37) :: (g, oC #[sB X, iN (u + 16)] 29) :: ([] : Blks)) (opAt Tryd.f16 2 3) (iN (min (takN 16 (X.drop u)).length 16)) [(0, .cells (cn .u8 (takN 16 (X.drop u))) 37)] ∧ Kt [(3, pT bk), (2, pT br)] ((bk, .cells (cn .u8 (takN 16 (X.drop u))) 37) :: (br, .cells (cn .u8 (List.replicate 16 0)) 37) :: (g, oC #[sB X, iN (u + 16)] 29) :: ([] : Blks))) (by kernel_rfl) (fun _ => by kernel_rfl) (⟨(copyStr_ok (p := .tmp 5) (q := .tmp 7) (t := 63) (tq := 9) (e := 5) (T := 37) (off := 0) (len := 16) (X := takN 16 (X.drop u)) (cs := cn .u8 (List.replicate 16 0)) (i := 0) (by kernel_rfl) rfl rfl (takN_lt (dropX_lt hX u) 16) Tryd.underlying63 (by kernel_rfl) rfl (by rw [cn_size, List.length_replicate]; decide) (by rw [List.take_of_length_le (by rw [takN_len]; decide)]; exact setFrom_new8 (by rw [List.length_replicate, takN_len]))), fun ac11 wd11 FF11 MM11 => ?_⟩)
      refine wpl_nil (onN_n ?_)
      refine any_none (by kernel_rfl) (then_n ?_)
      exact ⟨FF11.pick [0, 1], MM11⟩
  · rintro ac12 wd12 ⟨FF12, MM12⟩
    refine wp_seq (rg_seq FF12 MM12 [b_ 0, b_ 1] [3, 2] (fun Kt => bk = bk ∧ (cn .u8 (takN 16 (X.drop u))).size = 16 ∧ br = br ∧ (cn .u8 (List.replicate 16 0)).size = 16 ∧ (cn .u8 (takN 16 (X.drop u))).size = 16 ∧ (cn .u8 (takN 16 (X.drop u))).all (·.oneCell') = true ∧ (0, 0).2 = 0 ∧ Kt [(3, pT bk), (2, pT br)] ((bk, .cells (cn .u8 (takN 16 (X.drop u))) 37) :: (br, .cells (cn .u8 (takN 16 (X.drop u))) 37) :: (g, oC #[sB X, iN (u + 16)] 29) :: ([] : Blks))) (by kernel_rfl) (fun _ => by kernel_rfl) (⟨rfl, ((cn_size _ _).trans (takN_len _ _)), rfl, ((cn_size _ _).trans (List.length_replicate ..)), ((cn_size _ _).trans (takN_len _ _)), (cn_one _ _), rfl, fun ac13 wd13 FF13 MM13 => then_n ?_⟩))
    refine wp_ret ?_
    repeat first | refine then_ret ?_ | refine inb_ret ?_
    exact (retc FF13 MM13 (k := 16) (i := 1) (j := 1) Tryd.results16 rfl rfl Tryd.underlying37 rfl (by kernel_rfl) ((cn_size _ _).trans (takN_len _ _)) ⟨rfl, MM13.turn (O := []) (fun i x hx => by simp at hx) 2 rfl (fun x hx => (nomatch hx))⟩)
set_option maxRecDepth 100000 in
theorem rbelow_any (g : Nat) (X : List Nat) (u : Nat) (hX : ∀ i, X.getD i 0 < 256) (hu : u < 4611686018427000000) (n k : Nat) (h1 : 1 ≤ n) (hn : n ≤ 65536) (hk1 : 1 ≤ k) (hk : k ≤ 16) (w0 : World) (hg : w0.heap[g]? = some (RB X u)) :
    Calls Tryd.prog 18 #[pT g, iN n, iN k] w0 fun e w' => e = .returned (.tuple #[iN ((belN n k (X.drop u)).1), iN ((belN n k (X.drop u)).2.1)]) ∧ Turn g (RB X (u + (belN n k (X.drop u)).2.2)) w0 w' := by
  refine enter_fr Tryd.func18 rfl Tryd.ntmps18 (by simp) fun ac (FF : Fr 45 ac [(0, pT g), (1, iN n), (2, iN k)]) => ?_
  have MM : MemS (fun k => k < w0.heap.size ∧ ∀ x ∈ (g, oC #[sB X, iN u] 29) :: ([] : Blks), x.1 ≠ k) w0 w0 ((g, oC #[sB X, iN u] 29) :: ([] : Blks)) [] := MemS.startN (one_has hg) ⟨fun y hy => (nomatch hy), trivial⟩
  refine wp_seq (rg_seq FF MM [o_, o_] [0, 1, 2, 6, 7] (fun Kt => Kt [(7, iN 0), (6, iN 0), (0, pT g), (1, iN n), (2, iN k)] ((g, oC #[sB X, iN u] 29) :: ([] : Blks))) (by kernel_rfl) (fun _ => by kernel_rfl) (fun ac1 wd1 FF1 MM1 => then_n ?_))
  refine wp_seq ?_
  refine wp_seq (rg_seq FF1 MM1 [o_, w_ 3, o_, o_, w_ 3, o_, o_, o_, t_ (.bool true), o_, o_] [7, 6, 0, 1, 2, 21] (fun Kt => ¬ (n < 1) ∧ ¬ (n > 65536) ∧ CallP Tryd.prog 32 [iN k] [] (.bool true) ∧ Kt [(21, .bool false), (7, iN 0), (6, iN 0), (0, pT g), (1, iN n), (2, iN k)] ((g, oC #[sB X, iN u] 29) :: ([] : Blks))) (by kernel_rfl) (fun _ => by kernel_rfl) (⟨(by omega), (by omega), (callP_of en_tries (tries_yes k (by omega) (by omega)) _), fun ac2 wd2 FF2 MM2 => then_n ?_⟩))
  refine wp_cond_false (FF2.ev 0 rfl) ?_
  refine wp_skip ?_
  refine then_n ?_
  refine wp_seq ?_
  refine wp_seq (rg_seq FF2 MM2 [o_] [7, 6, 0, 1, 2, 8] (fun Kt => Kt [(8, iN 0), (7, iN 0), (6, iN 0), (0, pT g), (1, iN n), (2, iN k)] ((g, oC #[sB X, iN u] 29) :: ([] : Blks))) (by kernel_rfl) (fun _ => by kernel_rfl) (fun ac3 wd3 FF3 MM3 => then_n ?_))
  refine wp_for2 (fun a' w' => ∃ i : Nat, i ≤ k ∧ BelI n k (X.drop u) i ∧ Fr 45 a' [(8, iN i), (0, pT g), (1, iN n), (2, iN k)] ∧ MemS (fun k => k < w0.heap.size ∧ ∀ x ∈ (g, oC #[sB X, iN u] 29) :: ([] : Blks), x.1 ≠ k) w0 w' ((g, oC #[sB X, iN (u + 2 * i)] 29) :: ([] : Blks)) []) (fun a' _ => (k - cnt 8 a').toNat) ⟨0, Nat.zero_le _, bel_start _ _ _, FF3.pick [0, 3, 4, 5], MM3⟩ ?_
  rintro ac4 wd4 ⟨i, hi, hb, FF4, MM4⟩
  have hc := cnt_of (FF4.get 0 rfl)
  refine rg_seq FF4 MM4 [o_, o_, o_] [8, 0, 1, 2, 24] (fun Kt => Kt [(24, .bool (decide (i < k))), (8, iN i), (0, pT g), (1, iN n), (2, iN k)] ((g, oC #[sB X, iN (u + 2 * i)] 29) :: ([] : Blks))) (by kernel_rfl) (fun _ => by kernel_rfl) (fun ac5 wd5 FF5 MM5 => ?_)
  by_cases hlt : i < k
  · skip
    refine then_n (.inl ⟨(FF5.ev 0 rfl).trans (dec_t hlt), ?_⟩)
    refine wp_seq (rg_seq FF5 MM5 [o_, c_ (sB (takN 2 (X.drop (u + 2 * i)))) [(0, oC #[sB X, iN (u + 2 * (i + 1))] 29)], o_] [8, 0, 1, 2, 9] (fun Kt => CallU Tryd.prog 12 [pT g, iN 2] ((g, oC #[sB X, iN (u + 2 * i)] 29) :: ([] : Blks)) (sB (takN 2 (X.drop (u + 2 * i)))) [(0, oC #[sB X, iN (u + 2 * (i + 1))] 29)] ∧ Kt [(9, sB (takN 2 (X.drop (u + 2 * i)))), (8, iN i), (0, pT g), (1, iN n), (2, iN k)] ((g, oC #[sB X, iN (u + 2 * (i + 1))] 29) :: ([] : Blks))) (by kernel_rfl) (fun _ => by kernel_rfl) (⟨(callU_turn en_rtake (g := g) (ob := RB X (u + 2 * i)) rfl fun w hg => by have h0 := rtake_any g 2 X (u + 2 * i) hX (by omega) (by decide) w hg; exact h0), fun ac6 wd6 FF6 MM6 => then_n ?_⟩))
    have h20 := takN_lt (dropX_lt hX (u + 2 * i)) 2 0
    have h21 := takN_lt (dropX_lt hX (u + 2 * i)) 2 1
    have htw := two_lt (dropX_lt hX (u + 2 * i))
    refine wp_seq (rg_draw FF6 MM6 [.inl (sB (takN 2 (X.drop (u + 2 * i)))), .inl (iB ((takN 2 (X.drop (u + 2 * i))).getD 0 0)), .inl (iN ((takN 2 (X.drop (u + 2 * i))).getD 0 0)), .inl (sB (takN 2 (X.drop (u + 2 * i)))), .inl (iB ((takN 2 (X.drop (u + 2 * i))).getD 1 0)), .inl (iN ((takN 2 (X.drop (u + 2 * i))).getD 1 0)), .inl (iN (256 * ((takN 2 (X.drop (u + 2 * i))).getD 1 0))), .inl (iN (twoN (X.drop (u + 2 * i)))), .inl (iN (twoN (X.drop (u + 2 * i))))] [] [o_, t_ (iB ((takN 2 (X.drop (u + 2 * i))).getD 0 0)), w_ 1, o_, t_ (iB ((takN 2 (X.drop (u + 2 * i))).getD 1 0)), w_ 1, o_, t_ (iN (twoN (X.drop (u + 2 * i)))), o_] [] [9, 8, 0, 1, 2, 10] (fun nb => [0 < (bs (takN 2 (X.drop (u + 2 * i)))).size, (nl (bs (takN 2 (X.drop (u + 2 * i))))).getD 0 0 = (takN 2 (X.drop (u + 2 * i))).getD 0 0, ((takN 2 (X.drop (u + 2 * i))).getD 0 0) < 9223372036854775808, 1 < (bs (takN 2 (X.drop (u + 2 * i)))).size, (nl (bs (takN 2 (X.drop (u + 2 * i))))).getD 1 0 = (takN 2 (X.drop (u + 2 * i))).getD 1 0, ((takN 2 (X.drop (u + 2 * i))).getD 1 0) < 9223372036854775808, 256 * ((takN 2 (X.drop (u + 2 * i))).getD 1 0) < 9223372036854775808, ((takN 2 (X.drop (u + 2 * i))).getD 0 0) + (256 * ((takN 2 (X.drop (u + 2 * i))).getD 1 0)) < 9223372036854775808, iN (((takN 2 (X.drop (u + 2 * i))).getD 0 0) + (256 * ((takN 2 (X.drop (u + 2 * i))).getD 1 0))) = iN (twoN (X.drop (u + 2 * i)))]) (fun nb Kt => Kt [(10, iN (twoN (X.drop (u + 2 * i)))), (9, sB (takN 2 (X.drop (u + 2 * i)))), (8, iN i), (0, pT g), (1, iN n), (2, iN k)] ((g, oC #[sB X, iN (u + 2 * (i + 1))] 29) :: ([] : Blks))) (by kernel_rfl) (by kernel_rfl) (by kernel_rfl) (fun _ => by kernel_rfl) (fun _ _ => by kernel_rfl) trivial (fun nb => ⟨(by rw [bs_size, takN_len]; decide), (byte_bs (takN_lt (dropX_lt hX (u + 2 * i)) 2) _), (by have := (takN_lt (dropX_lt hX (u + 2 * i)) 2) 0; omega), (by rw [bs_size, takN_len]; decide), (byte_bs (takN_lt (dropX_lt hX (u + 2 * i)) 2) _), (by have := (takN_lt (dropX_lt hX (u + 2 * i)) 2) 1; omega), (by have := (takN_lt (dropX_lt hX (u + 2 * i)) 2) 1; omega), (by have := (takN_lt (dropX_lt hX (u + 2 * i)) 2) 0; have := (takN_lt (dropX_lt hX (u + 2 * i)) 2) 1; omega), (vI (by rw [takN_get _ (by decide), takN_get _ (by decide)]; rfl)), trivial⟩) (fun nb => fun ac7 wd7 FF7 MM7 => then_n ?_))
    refine wp_seq (rg_seq FF7 MM7 [o_, o_, o_, o_, o_] [10, 9, 8, 0, 1, 2, 41] (fun Kt => n ≠ 0 ∧ (65536 % n) ≤ 65536 ∧ 65536 - (65536 % n) < 9223372036854775808 ∧ Kt [(41, .bool (decide ((twoN (X.drop (u + 2 * i))) < (65536 - (65536 % n))))), (10, iN (twoN (X.drop (u + 2 * i)))), (9, sB (takN 2 (X.drop (u + 2 * i)))), (8, iN i), (0, pT g), (1, iN n), (2, iN k)] ((g, oC #[sB X, iN (u + 2 * (i + 1))] 29) :: ([] : Blks))) (by kernel_rfl) (fun _ => by kernel_rfl) (⟨(by have := hn; omega), (Nat.mod_le _ _), (by have := hn; omega), fun ac8 wd8 FF8 MM8 => then_n ?_⟩))
    by_cases hs41 : (twoN (X.drop (u + 2 * i))) < (65536 - (65536 % n))
    · refine wp_cond_true ((FF8.ev 0 rfl).trans (dec_t hs41)) ?_
      have hE := bel_yes hb hlt (by rw [List.drop_drop]; exact hs41)
      refine wp_seq (rg_seq FF8 MM8 [o_, o_, o_, o_, o_] [10, 9, 8, 0, 1, 2, 6, 7] (fun Kt => n ≠ 0 ∧ Kt [(7, iN 0), (6, iN ((twoN (X.drop (u + 2 * i))) % n)), (10, iN (twoN (X.drop (u + 2 * i)))), (9, sB (takN 2 (X.drop (u + 2 * i)))), (8, iN i), (0, pT g), (1, iN n), (2, iN k)] ((g, oC #[sB X, iN (u + 2 * (i + 1))] 29) :: ([] : Blks))) (by kernel_rfl) (fun _ => by kernel_rfl) (⟨(by have := htw; have := hn; omega), fun ac9 wd9 FF9 MM9 => then_n ?_⟩))
      refine wp_ret ?_
      repeat first | refine then_ret ?_ | refine inb_ret ?_
      exact (ret_tup2 FF9 1 0 Tryd.results18 rfl rfl (by rw [hE]; exact ⟨by rw [List.drop_drop], MM9.turn (O := []) (fun i x hx => by simp at hx) 0 rfl (fun x hx => (nomatch hx))⟩))
    · refine wp_cond_false ((FF8.ev 0 rfl).trans (dec_f hs41)) ?_
      refine wp_skip ?_
      refine inb_n (then_n ?_)
      refine rg_seq FF8 MM8 [o_, o_, o_] [10, 9, 8, 0, 1, 2] (fun Kt => i + 1 < 9223372036854775808 ∧ Kt [(8, iN (i + 1)), (10, iN (twoN (X.drop (u + 2 * i)))), (9, sB (takN 2 (X.drop (u + 2 * i)))), (0, pT g), (1, iN n), (2, iN k)] ((g, oC #[sB X, iN (u + 2 * (i + 1))] 29) :: ([] : Blks))) (by kernel_rfl) (fun _ => by kernel_rfl) (⟨(by omega), fun ac10 wd10 FF10 MM10 => ?_⟩)
      have hd := cnt_of (FF10.get 0 rfl)
      refine then_n ⟨⟨i + 1, by omega, bel_no hb hlt (by rw [List.drop_drop]; exact hs41), FF10.pick [0, 3, 4, 5], MM10⟩, ?_⟩
      rw [hc, hd]; omega
  · skip
    refine then_n (.inr ⟨(FF5.ev 0 rfl).trans (dec_f hlt), ?_⟩)
    have hik : i = k := by omega
    subst hik
    have hE := bel_end hb
    refine then_n ?_
    refine wp_seq (rg_seq FF5 MM5 [o_, o_] [8, 0, 1, 2, 6, 7] (fun Kt => Kt [(7, iN 3), (6, iN 0), (8, iN i), (0, pT g), (1, iN n), (2, iN i)] ((g, oC #[sB X, iN (u + 2 * i)] 29) :: ([] : Blks))) (by kernel_rfl) (fun _ => by kernel_rfl) (fun ac11 wd11 FF11 MM11 => then_n ?_))
    refine wp_ret ?_
    repeat first | refine then_ret ?_ | refine inb_ret ?_
    exact (ret_tup2 FF11 1 0 Tryd.results18 rfl rfl (by rw [hE]; exact ⟨rfl, MM11.turn (O := []) (fun i x hx => by simp at hx) 0 rfl (fun x hx => (nomatch hx))⟩))
set_option maxRecDepth 100000 in
theorem rbelow_lo (g : Nat) (z t : Int) (hz : z < 1) (w0 : World) :
    Calls Tryd.prog 18 #[pT g, .int .i64 z, .int .i64 t] w0 fun e w' => e = .returned (.tuple #[iN 0, iN 1]) ∧ Below w0.heap.size w0 w' := by
  refine enter_fr Tryd.func18 rfl Tryd.ntmps18 (by simp) fun ac (FF : Fr 45 ac [(0, pT g), (1, .int .i64 (z : Int)), (2, .int .i64 (t : Int))]) => ?_
  have MM := MemS.start w0
  refine wp_seq (rg_seq FF MM [o_, o_] [0, 1, 2, 6, 7] (fun Kt => Kt [(7, iN 0), (6, iN 0), (0, pT g), (1, .int .i64 (z : Int)), (2, .int .i64 (t : Int))] []) (by kernel_rfl) (fun _ => by kernel_rfl) (fun ac1 wd1 FF1 MM1 => then_n ?_))
  refine wp_seq ?_
  refine wp_seq (rg_seq FF1 MM1 [o_, w_ 6, o_, o_, o_, o_, o_, o_, o_, o_, o_] [7, 6, 0, 1, 2, 21] (fun Kt => z < ((1 : Nat) : Int) ∧ Kt [(21, .bool true), (7, iN 0), (6, iN 0), (0, pT g), (1, .int .i64 (z : Int)), (2, .int .i64 (t : Int))] []) (by kernel_rfl) (fun _ => by kernel_rfl) (⟨hz, fun ac2 wd2 FF2 MM2 => then_n ?_⟩))
  refine wp_cond_true (FF2.ev 0 rfl) ?_
  refine wp_seq (rg_seq FF2 MM2 [o_, o_] [7, 6, 0, 1, 2] (fun Kt => Kt [(7, iN 1), (6, iN 0), (0, pT g), (1, .int .i64 (z : Int)), (2, .int .i64 (t : Int))] []) (by kernel_rfl) (fun _ => by kernel_rfl) (fun ac3 wd3 FF3 MM3 => then_n ?_))
  refine wp_ret ?_
  repeat first | refine then_ret ?_ | refine inb_ret ?_
  exact (ret_tup2 FF3 1 0 Tryd.results18 rfl rfl ⟨rfl, MM3.below⟩)
set_option maxRecDepth 100000 in
theorem rbelow_hi (g : Nat) (z t : Int) (hz : z > 65536) (w0 : World) :
    Calls Tryd.prog 18 #[pT g, .int .i64 z, .int .i64 t] w0 fun e w' => e = .returned (.tuple #[iN 0, iN 1]) ∧ Below w0.heap.size w0 w' := by
  refine enter_fr Tryd.func18 rfl Tryd.ntmps18 (by simp) fun ac (FF : Fr 45 ac [(0, pT g), (1, .int .i64 (z : Int)), (2, .int .i64 (t : Int))]) => ?_
  have MM := MemS.start w0
  refine wp_seq (rg_seq FF MM [o_, o_] [0, 1, 2, 6, 7] (fun Kt => Kt [(7, iN 0), (6, iN 0), (0, pT g), (1, .int .i64 (z : Int)), (2, .int .i64 (t : Int))] []) (by kernel_rfl) (fun _ => by kernel_rfl) (fun ac1 wd1 FF1 MM1 => then_n ?_))
  refine wp_seq ?_
  refine wp_seq (rg_seq FF1 MM1 [o_, u_ 4 (.bool false), o_, o_, w_ 6, o_, o_, o_, o_, o_, o_] [7, 6, 0, 1, 2, 21] (fun Kt => Value.bool (decide (z < ((1 : Nat) : Int))) = .bool false ∧ z > ((65536 : Nat) : Int) ∧ Kt [(21, .bool true), (7, iN 0), (6, iN 0), (0, pT g), (1, .int .i64 (z : Int)), (2, .int .i64 (t : Int))] []) (by kernel_rfl) (fun _ => by kernel_rfl) (⟨(dec_f (by omega)), hz, fun ac2 wd2 FF2 MM2 => then_n ?_⟩))
  refine wp_cond_true (FF2.ev 0 rfl) ?_
  refine wp_seq (rg_seq FF2 MM2 [o_, o_] [7, 6, 0, 1, 2] (fun Kt => Kt [(7, iN 1), (6, iN 0), (0, pT g), (1, .int .i64 (z : Int)), (2, .int .i64 (t : Int))] []) (by kernel_rfl) (fun _ => by kernel_rfl) (fun ac3 wd3 FF3 MM3 => then_n ?_))
  refine wp_ret ?_
  repeat first | refine then_ret ?_ | refine inb_ret ?_
  exact (ret_tup2 FF3 1 0 Tryd.results18 rfl rfl ⟨rfl, MM3.below⟩)
set_option maxRecDepth 100000 in
theorem rbelow_tlo (g : Nat) (z t : Int) (h1 : 1 ≤ z) (hn : z ≤ 65536) (hz : t < 1) (w0 : World) :
    Calls Tryd.prog 18 #[pT g, .int .i64 z, .int .i64 t] w0 fun e w' => e = .returned (.tuple #[iN 0, iN 1]) ∧ Below w0.heap.size w0 w' := by
  refine enter_fr Tryd.func18 rfl Tryd.ntmps18 (by simp) fun ac (FF : Fr 45 ac [(0, pT g), (1, .int .i64 (z : Int)), (2, .int .i64 (t : Int))]) => ?_
  have MM := MemS.start w0
  refine wp_seq (rg_seq FF MM [o_, o_] [0, 1, 2, 6, 7] (fun Kt => Kt [(7, iN 0), (6, iN 0), (0, pT g), (1, .int .i64 (z : Int)), (2, .int .i64 (t : Int))] []) (by kernel_rfl) (fun _ => by kernel_rfl) (fun ac1 wd1 FF1 MM1 => then_n ?_))
  refine wp_seq ?_
  refine wp_seq (rg_seq FF1 MM1 [o_, u_ 4 (.bool false), o_, o_, u_ 4 (.bool false), o_, o_, o_, t_ (.bool false), o_, o_] [7, 6, 0, 1, 2, 21] (fun Kt => Value.bool (decide (z < ((1 : Nat) : Int))) = .bool false ∧ Value.bool (decide (z > ((65536 : Nat) : Int))) = .bool false ∧ CallP Tryd.prog 32 [.int .i64 (t : Int)] [] (.bool false) ∧ Kt [(21, .bool true), (7, iN 0), (6, iN 0), (0, pT g), (1, .int .i64 (z : Int)), (2, .int .i64 (t : Int))] []) (by kernel_rfl) (fun _ => by kernel_rfl) (⟨(dec_f (by omega)), (dec_f (by omega)), (callP_of en_tries (tries_lo t hz) _), fun ac2 wd2 FF2 MM2 => then_n ?_⟩))
  refine wp_cond_true (FF2.ev 0 rfl) ?_
  refine wp_seq (rg_seq FF2 MM2 [o_, o_] [7, 6, 0, 1, 2] (fun Kt => Kt [(7, iN 1), (6, iN 0), (0, pT g), (1, .int .i64 (z : Int)), (2, .int .i64 (t : Int))] []) (by kernel_rfl) (fun _ => by kernel_rfl) (fun ac3 wd3 FF3 MM3 => then_n ?_))
  refine wp_ret ?_
  repeat first | refine then_ret ?_ | refine inb_ret ?_
  exact (ret_tup2 FF3 1 0 Tryd.results18 rfl rfl ⟨rfl, MM3.below⟩)
set_option maxRecDepth 100000 in
theorem rbelow_thi (g : Nat) (z t : Int) (h1 : 1 ≤ z) (hn : z ≤ 65536) (hz : t > 16) (w0 : World) :
    Calls Tryd.prog 18 #[pT g, .int .i64 z, .int .i64 t] w0 fun e w' => e = .returned (.tuple #[iN 0, iN 1]) ∧ Below w0.heap.size w0 w' := by
  refine enter_fr Tryd.func18 rfl Tryd.ntmps18 (by simp) fun ac (FF : Fr 45 ac [(0, pT g), (1, .int .i64 (z : Int)), (2, .int .i64 (t : Int))]) => ?_
  have MM := MemS.start w0
  refine wp_seq (rg_seq FF MM [o_, o_] [0, 1, 2, 6, 7] (fun Kt => Kt [(7, iN 0), (6, iN 0), (0, pT g), (1, .int .i64 (z : Int)), (2, .int .i64 (t : Int))] []) (by kernel_rfl) (fun _ => by kernel_rfl) (fun ac1 wd1 FF1 MM1 => then_n ?_))
  refine wp_seq ?_
  refine wp_seq (rg_seq FF1 MM1 [o_, u_ 4 (.bool false), o_, o_, u_ 4 (.bool false), o_, o_, o_, t_ (.bool false), o_, o_] [7, 6, 0, 1, 2, 21] (fun Kt => Value.bool (decide (z < ((1 : Nat) : Int))) = .bool false ∧ Value.bool (decide (z > ((65536 : Nat) : Int))) = .bool false ∧ CallP Tryd.prog 32 [.int .i64 (t : Int)] [] (.bool false) ∧ Kt [(21, .bool true), (7, iN 0), (6, iN 0), (0, pT g), (1, .int .i64 (z : Int)), (2, .int .i64 (t : Int))] []) (by kernel_rfl) (fun _ => by kernel_rfl) (⟨(dec_f (by omega)), (dec_f (by omega)), (callP_of en_tries (tries_hi t hz) _), fun ac2 wd2 FF2 MM2 => then_n ?_⟩))
  refine wp_cond_true (FF2.ev 0 rfl) ?_
  refine wp_seq (rg_seq FF2 MM2 [o_, o_] [7, 6, 0, 1, 2] (fun Kt => Kt [(7, iN 1), (6, iN 0), (0, pT g), (1, .int .i64 (z : Int)), (2, .int .i64 (t : Int))] []) (by kernel_rfl) (fun _ => by kernel_rfl) (fun ac3 wd3 FF3 MM3 => then_n ?_))
  refine wp_ret ?_
  repeat first | refine then_ret ?_ | refine inb_ret ?_
  exact (ret_tup2 FF3 1 0 Tryd.results18 rfl rfl ⟨rfl, MM3.below⟩)
end Go.Proofs.YtdeiodcfblldgaaDoor
namespace Go.Proofs.YtdeiodcfblldgaaDoor
open Go.RowKit
theorem minB_zero : minB 0 = [] := by decide
theorem sz_bits {N : Nat} (h : bsz N ≤ 1024) : sz N ≤ 128 := sz_le (Nat.lt_of_lt_of_le (bsz_ok N).1 (Nat.le_trans (Nat.pow_le_pow_right (by decide) h) (by decide +kernel)))
theorem sz_bit {b : Nat} (X : List Nat) (h : b ≤ 1024) : sz (bitN b X) ≤ 128 := sz_le (Nat.lt_of_lt_of_le (bitN_lt b X) (Nat.le_trans (Nat.pow_le_pow_right (by decide) h) (by decide +kernel)))
set_option maxRecDepth 100000 in
theorem runder_any (g : Nat) (X : List Nat) (u : Nat) (hX : ∀ i, X.getD i 0 < 256) (hu : u < 4611686018427000000) (N k : Nat) (h1 : 1 ≤ bsz N) (hb : bsz N ≤ 1024) (hk1 : 1 ≤ k) (hk : k ≤ 16) (w0 : World) (hg : w0.heap[g]? = some (RB X u)) :
    Calls Tryd.prog 21 #[pT g, sB (minB N), iN k] w0 fun e w' => e = .returned (.tuple #[sB (minB (undN N (bsz N) k (X.drop u)).1), iN ((undN N (bsz N) k (X.drop u)).2.1)]) ∧ Turn g (RB X (u + (undN N (bsz N) k (X.drop u)).2.2)) w0 w' := by
  refine enter_fr Tryd.func21 rfl Tryd.ntmps21 (by simp) fun ac (FF : Fr 59 ac [(0, pT g), (1, sB (minB N)), (2, iN k)]) => ?_
  have MM : MemS (fun k => k < w0.heap.size ∧ ∀ x ∈ (g, oC #[sB X, iN u] 29) :: ([] : Blks), x.1 ≠ k) w0 w0 ((g, oC #[sB X, iN u] 29) :: ([] : Blks)) [] := MemS.startN (one_has hg) ⟨fun y hy => (nomatch hy), trivial⟩
  have hsN := sz_bits hb
  refine wp_seq (rg_seq FF MM [o_, o_] [0, 1, 2, 6, 7] (fun Kt => Kt [(7, iN 0), (6, sB []), (0, pT g), (1, sB (minB N)), (2, iN k)] ((g, oC #[sB X, iN u] 29) :: ([] : Blks))) (by kernel_rfl) (fun _ => by kernel_rfl) (fun ac1 wd1 FF1 MM1 => then_n ?_))
  refine wp_seq (rg_seq FF1 MM1 [o_, t_ (iN (bsz N)), o_] [7, 6, 0, 1, 2, 8] (fun Kt => CallP Tryd.prog 35 [sB (minB N)] [] (iN (bsz N)) ∧ Kt [(8, iN (bsz N)), (7, iN 0), (6, sB []), (0, pT g), (1, sB (minB N)), (2, iN k)] ((g, oC #[sB X, iN u] 29) :: ([] : Blks))) (by kernel_rfl) (fun _ => by kernel_rfl) (⟨(callP_of en_rbits (bits8_any N (by omega)) _), fun ac2 wd2 FF2 MM2 => then_n ?_⟩))
  refine wp_seq ?_
  refine wp_seq (rg_seq FF2 MM2 [o_, w_ 3, o_, o_, w_ 3, o_, o_, o_, t_ (.bool true), o_, o_] [8, 7, 6, 0, 1, 2, 24] (fun Kt => ¬ ((bsz N) < 1) ∧ ¬ ((bsz N) > 1024) ∧ CallP Tryd.prog 32 [iN k] [] (.bool true) ∧ Kt [(24, .bool false), (8, iN (bsz N)), (7, iN 0), (6, sB []), (0, pT g), (1, sB (minB N)), (2, iN k)] ((g, oC #[sB X, iN u] 29) :: ([] : Blks))) (by kernel_rfl) (fun _ => by kernel_rfl) (⟨(by omega), (by omega), (callP_of en_tries (tries_yes k (by omega) (by omega)) _), fun ac3 wd3 FF3 MM3 => then_n ?_⟩))
  refine wp_cond_false (FF3.ev 0 rfl) ?_
  refine wp_skip ?_
  refine then_n ?_
  refine wp_seq ?_
  refine wp_seq (rg_seq FF3 MM3 [o_] [8, 7, 6, 0, 1, 2, 9] (fun Kt => Kt [(9, iN 0), (8, iN (bsz N)), (7, iN 0), (6, sB []), (0, pT g), (1, sB (minB N)), (2, iN k)] ((g, oC #[sB X, iN u] 29) :: ([] : Blks))) (by kernel_rfl) (fun _ => by kernel_rfl) (fun ac4 wd4 FF4 MM4 => then_n ?_))
  refine wp_for2 (fun a' w' => ∃ i : Nat, i ≤ k ∧ UndI N (bsz N) k (X.drop u) i ∧ Fr 59 a' [(9, iN i), (8, iN (bsz N)), (0, pT g), (1, sB (minB N)), (2, iN k)] ∧ MemS (fun k => k < w0.heap.size ∧ ∀ x ∈ (g, oC #[sB X, iN u] 29) :: ([] : Blks), x.1 ≠ k) w0 w' ((g, oC #[sB X, iN (u + (bsz N + 7) / 8 * i)] 29) :: ([] : Blks)) []) (fun a' _ => (k - cnt 9 a').toNat) ⟨0, Nat.zero_le _, und_start _ _ _ _, FF4.pick [0, 1, 4, 5, 6], MM4⟩ ?_
  rintro ac5 wd5 ⟨i, hi, hI, FF5, MM5⟩
  have hc := cnt_of (FF5.get 0 rfl)
  refine rg_seq FF5 MM5 [o_, o_, o_] [9, 8, 0, 1, 2, 27] (fun Kt => Kt [(27, .bool (decide (i < k))), (9, iN i), (8, iN (bsz N)), (0, pT g), (1, sB (minB N)), (2, iN k)] ((g, oC #[sB X, iN (u + (bsz N + 7) / 8 * i)] 29) :: ([] : Blks))) (by kernel_rfl) (fun _ => by kernel_rfl) (fun ac6 wd6 FF6 MM6 => ?_)
  by_cases hlt : i < k
  · skip
    refine then_n (.inl ⟨(FF6.ev 0 rfl).trans (dec_t hlt), ?_⟩)
    have hmi : (bsz N + 7) / 8 * i ≤ 129 * 16 := Nat.mul_le_mul (by omega) (by omega)
    have hXi := dropX_lt hX (u + (bsz N + 7) / 8 * i)
    have hmk : (takN ((bsz N + 7) / 8) (X.drop (u + (bsz N + 7) / 8 * i))).getD ((bsz N + 7) / 8 - 1) 0 &&& ((1 * 2 ^ (bsz N % 8) % 256 + (256 - 1)) % 256) < 256 := Nat.lt_of_le_of_lt Nat.and_le_left (takN_lt hXi _ _)
    have hY2 := setY_lt (i := (bsz N + 7) / 8 - 1) (takN_lt hXi ((bsz N + 7) / 8)) hmk
    refine wp_seq (wp_region_list ?_)
    refine rg_part 5 FF6 MM6 [o_, o_, o_, o_, c_ (sB (takN (((bsz N) + 7) / 8) (X.drop (u + (bsz N + 7) / 8 * i)))) [(0, oC #[sB X, iN (u + (bsz N + 7) / 8 * (i + 1))] 29)]] [9, 8, 0, 1, 2, 34] (fun Kt => (bsz N) + 7 < 9223372036854775808 ∧ 8 ≠ 0 ∧ ((bsz N) + 7) / 8 < 9223372036854775808 ∧ CallU Tryd.prog 12 [pT g, iN (((bsz N) + 7) / 8)] ((g, oC #[sB X, iN (u + (bsz N + 7) / 8 * i)] 29) :: ([] : Blks)) (sB (takN (((bsz N) + 7) / 8) (X.drop (u + (bsz N + 7) / 8 * i)))) [(0, oC #[sB X, iN (u + (bsz N + 7) / 8 * (i + 1))] 29)] ∧ Kt [(34, sB (takN (((bsz N) + 7) / 8) (X.drop (u + (bsz N + 7) / 8 * i)))), (9, iN i), (8, iN (bsz N)), (0, pT g), (1, sB (minB N)), (2, iN k)] ((g, oC #[sB X, iN (u + (bsz N + 7) / 8 * (i + 1))] 29) :: ([] : Blks))) (by kernel_rfl) (fun _ => by kernel_rfl) (⟨(by have := hb; omega), (by decide), (by have := hb; omega), (callU_turn en_rtake (g := g) (ob := RB X (u + (bsz N + 7) / 8 * i)) rfl fun w hg => by have h0 := rtake_any g (((bsz N) + 7) / 8) X (u + (bsz N + 7) / 8 * i) hX (by omega) (by omega) w hg; rw [Nat.add_assoc, ← Nat.mul_succ] at h0; exact h0), fun ac7 wd7 FF7 MM7 => ?_⟩)
    refine st_new [9, 8, 0, 1, 2, 35] FF7 MM7 (d := 35) (bytes_ok (e := 5) (x := (.tmp 34)) (by kernel_rfl) rfl (takN_lt (dropX_lt hX (u + (bsz N + 7) / 8 * i)) (((bsz N) + 7) / 8)) Tryd.underlying9 Tryd.underlying63 Tryd.underlying5) rfl rfl (by decide) fun ac8 wd8 bs_ cz (FF8 : Fr 59 ac8 [(35, .slice (some ⟨bs_, 0, none⟩) ((takN (((bsz N) + 7) / 8) (X.drop (u + (bsz N + 7) / 8 * i))).length) ((takN (((bsz N) + 7) / 8) (X.drop (u + (bsz N + 7) / 8 * i))).length + cz)), (9, iN i), (8, iN (bsz N)), (0, pT g), (1, sB (minB N)), (2, iN k)]) (MM8 : MemS (fun k => k < w0.heap.size ∧ ∀ x ∈ (g, oC #[sB X, iN u] 29) :: ([] : Blks), x.1 ≠ k) w0 wd8 ((bs_, .cells (cn .u8 ((takN (((bsz N) + 7) / 8) (X.drop (u + (bsz N + 7) / 8 * i))) ++ List.replicate cz 0)) 5 ((takN (((bsz N) + 7) / 8) (X.drop (u + (bsz N + 7) / 8 * i))).length + cz, (takN (((bsz N) + 7) / 8) (X.drop (u + (bsz N + 7) / 8 * i))).length + cz + 1)) :: (g, oC #[sB X, iN (u + (bsz N + 7) / 8 * (i + 1))] 29) :: ([] : Blks)) []) => ?_
    refine rg_part 1 FF8 MM8 [o_] [9, 8, 0, 1, 2, 10] (fun Kt => Kt [(10, .slice (some ⟨bs_, 0, none⟩) ((takN (((bsz N) + 7) / 8) (X.drop (u + (bsz N + 7) / 8 * i))).length) ((takN (((bsz N) + 7) / 8) (X.drop (u + (bsz N + 7) / 8 * i))).length + cz)), (9, iN i), (8, iN (bsz N)), (0, pT g), (1, sB (minB N)), (2, iN k)] ((bs_, .cells (cn .u8 ((takN (((bsz N) + 7) / 8) (X.drop (u + (bsz N + 7) / 8 * i))) ++ List.replicate cz 0)) 5 ((takN (((bsz N) + 7) / 8) (X.drop (u + (bsz N + 7) / 8 * i))).length + cz, (takN (((bsz N) + 7) / 8) (X.drop (u + (bsz N + 7) / 8 * i))).length + cz + 1)) :: (g, oC #[sB X, iN (u + (bsz N + 7) / 8 * (i + 1))] 29) :: ([] : Blks))) (by kernel_rfl) (fun _ => by kernel_rfl) (fun ac9 wd9 FF9 MM9 => ?_)
    refine wpl_nil (then_n ?_)
    refine wp_mid (fun a' w' => ∃ Z : List Nat, Z.length = (takN ((bsz N + 7) / 8) (X.drop (u + (bsz N + 7) / 8 * i))).length ∧ (∀ i, Z.getD i 0 < 256) ∧ leV Z = bitN (bsz N) (X.drop (u + (bsz N + 7) / 8 * i)) ∧ Fr 59 a' [(10, .slice (some ⟨bs_, 0, none⟩) ((takN (((bsz N) + 7) / 8) (X.drop (u + (bsz N + 7) / 8 * i))).length) ((takN (((bsz N) + 7) / 8) (X.drop (u + (bsz N + 7) / 8 * i))).length + cz)), (9, iN i), (8, iN (bsz N)), (0, pT g), (1, sB (minB N)), (2, iN k)] ∧ MemS (fun k => k < w0.heap.size ∧ ∀ x ∈ (g, oC #[sB X, iN u] 29) :: ([] : Blks), x.1 ≠ k) w0 w' ((bs_, .cells (cn .u8 (Z ++ List.replicate cz 0)) 5 ((takN ((bsz N + 7) / 8) (X.drop (u + (bsz N + 7) / 8 * i))).length + cz, (takN ((bsz N + 7) / 8) (X.drop (u + (bsz N + 7) / 8 * i))).length + cz + 1)) :: (g, oC #[sB X, iN (u + (bsz N + 7) / 8 * (i + 1))] 29) :: ([] : Blks)) []) ?_ ?_
    · skip
      refine wp_seq (rg_seq FF9 MM9 [o_, o_, o_] [10, 9, 8, 0, 1, 2, 38] (fun Kt => 8 ≠ 0 ∧ Kt [(38, .bool (decide (((bsz N) % 8) ≠ 0))), (10, .slice (some ⟨bs_, 0, none⟩) ((takN (((bsz N) + 7) / 8) (X.drop (u + (bsz N + 7) / 8 * i))).length) ((takN (((bsz N) + 7) / 8) (X.drop (u + (bsz N + 7) / 8 * i))).length + cz)), (9, iN i), (8, iN (bsz N)), (0, pT g), (1, sB (minB N)), (2, iN k)] ((bs_, .cells (cn .u8 ((takN (((bsz N) + 7) / 8) (X.drop (u + (bsz N + 7) / 8 * i))) ++ List.replicate cz 0)) 5 ((takN (((bsz N) + 7) / 8) (X.drop (u + (bsz N + 7) / 8 * i))).length + cz, (takN (((bsz N) + 7) / 8) (X.drop (u + (bsz N + 7) / 8 * i))).length + cz + 1)) :: (g, oC #[sB X, iN (u + (bsz N + 7) / 8 * (i + 1))] 29) :: ([] : Blks))) (by kernel_rfl) (fun _ => by kernel_rfl) (⟨(by decide), fun ac10 wd10 FF10 MM10 => then_n ?_⟩))
      by_cases hs38 : ((bsz N) % 8) ≠ 0
      · refine wp_cond_true ((FF10.ev 0 rfl).trans (dec_t hs38)) ?_
        refine rg_draw FF10 MM10 [.inl (.slice (some ⟨bs_, 0, none⟩) ((takN (((bsz N) + 7) / 8) (X.drop (u + (bsz N + 7) / 8 * i))).length) ((takN (((bsz N) + 7) / 8) (X.drop (u + (bsz N + 7) / 8 * i))).length + cz)), .inl (.slice (some ⟨bs_, 0, none⟩) ((takN (((bsz N) + 7) / 8) (X.drop (u + (bsz N + 7) / 8 * i))).length) ((takN (((bsz N) + 7) / 8) (X.drop (u + (bsz N + 7) / 8 * i))).length + cz)), .inl (iN ((bsz N + 7) / 8)), .inl (iN (((bsz N + 7) / 8) - 1)), .inl (.pointer (some ⟨bs_, ((bsz N + 7) / 8) - 1, none⟩)), .inl (iB ((takN ((bsz N + 7) / 8) (X.drop (u + (bsz N + 7) / 8 * i))).getD ((bsz N + 7) / 8 - 1) 0)), .inl (iN (bsz N)), .inl (iN ((bsz N) % 8)), .inl (iB (1 * (2 ^ ((bsz N) % 8)) % 256)), .inl (iB (((1 * (2 ^ ((bsz N) % 8)) % 256) + (256 - 1)) % 256)), .inl (iB (((takN ((bsz N + 7) / 8) (X.drop (u + (bsz N + 7) / 8 * i))).getD ((bsz N + 7) / 8 - 1) 0) &&& (((1 * (2 ^ ((bsz N) % 8)) % 256) + (256 - 1)) % 256))), .inl (.pointer (some ⟨bs_, ((bsz N + 7) / 8) - 1, none⟩))] [] [o_, o_, t_ (iN ((bsz N + 7) / 8)), o_, w_ 1, l_ 0 (iB ((takN ((bsz N + 7) / 8) (X.drop (u + (bsz N + 7) / 8 * i))).getD ((bsz N + 7) / 8 - 1) 0)), o_, o_, o_, o_, o_, w_ 1] [s_ 0 (.cells (cn .u8 ((takN ((bsz N + 7) / 8) (X.drop (u + (bsz N + 7) / 8 * i))).set ((bsz N + 7) / 8 - 1) ((takN ((bsz N + 7) / 8) (X.drop (u + (bsz N + 7) / 8 * i))).getD ((bsz N + 7) / 8 - 1) 0 &&& ((1 * 2 ^ (bsz N % 8) % 256 + (256 - 1)) % 256)) ++ List.replicate cz 0)) 5)] [10, 9, 8, 0, 1, 2] (fun nb => [iN ((takN (((bsz N) + 7) / 8) (X.drop (u + (bsz N + 7) / 8 * i))).length) = iN ((bsz N + 7) / 8), 1 ≤ ((bsz N + 7) / 8), ((bsz N + 7) / 8) - 1 < 9223372036854775808, (((bsz N + 7) / 8) - 1) < ((takN (((bsz N) + 7) / 8) (X.drop (u + (bsz N + 7) / 8 * i))).length), bs_ = bs_, (cn .u8 ((takN (((bsz N) + 7) / 8) (X.drop (u + (bsz N + 7) / 8 * i))) ++ List.replicate cz 0))[((bsz N + 7) / 8) - 1]? = some (iB ((takN ((bsz N + 7) / 8) (X.drop (u + (bsz N + 7) / 8 * i))).getD ((bsz N + 7) / 8 - 1) 0)), 8 ≠ 0, 1 ≤ 256, ((takN ((bsz N + 7) / 8) (X.drop (u + (bsz N + 7) / 8 * i))).getD ((bsz N + 7) / 8 - 1) 0) < 256, (((1 * (2 ^ ((bsz N) % 8)) % 256) + (256 - 1)) % 256) < 256, (((bsz N + 7) / 8) - 1) < ((takN (((bsz N) + 7) / 8) (X.drop (u + (bsz N + 7) / 8 * i))).length)]) (fun nb Kt => bs_ = bs_ ∧ ((bsz N + 7) / 8) - 1 < (cn .u8 ((takN (((bsz N) + 7) / 8) (X.drop (u + (bsz N + 7) / 8 * i))) ++ List.replicate cz 0)).size ∧ ((((takN (((bsz N) + 7) / 8) (X.drop (u + (bsz N + 7) / 8 * i))).length + cz, (takN (((bsz N) + 7) / 8) (X.drop (u + (bsz N + 7) / 8 * i))).length + cz + 1)).2 = 0 ∨ ((bsz N + 7) / 8) - 1 < (((takN (((bsz N) + 7) / 8) (X.drop (u + (bsz N + 7) / 8 * i))).length + cz, (takN (((bsz N) + 7) / 8) (X.drop (u + (bsz N + 7) / 8 * i))).length + cz + 1)).1) ∧ (cn .u8 ((takN (((bsz N) + 7) / 8) (X.drop (u + (bsz N + 7) / 8 * i))) ++ List.replicate cz 0)).setIfInBounds (((bsz N + 7) / 8) - 1) (iB (((takN ((bsz N + 7) / 8) (X.drop (u + (bsz N + 7) / 8 * i))).getD ((bsz N + 7) / 8 - 1) 0) &&& (((1 * (2 ^ ((bsz N) % 8)) % 256) + (256 - 1)) % 256))) = cn .u8 ((takN ((bsz N + 7) / 8) (X.drop (u + (bsz N + 7) / 8 * i))).set ((bsz N + 7) / 8 - 1) ((takN ((bsz N + 7) / 8) (X.drop (u + (bsz N + 7) / 8 * i))).getD ((bsz N + 7) / 8 - 1) 0 &&& ((1 * 2 ^ (bsz N % 8) % 256 + (256 - 1)) % 256)) ++ List.replicate cz 0) ∧ Kt [(10, .slice (some ⟨bs_, 0, none⟩) ((takN (((bsz N) + 7) / 8) (X.drop (u + (bsz N + 7) / 8 * i))).length) ((takN (((bsz N) + 7) / 8) (X.drop (u + (bsz N + 7) / 8 * i))).length + cz)), (9, iN i), (8, iN (bsz N)), (0, pT g), (1, sB (minB N)), (2, iN k)] ((bs_, .cells (cn .u8 ((takN ((bsz N + 7) / 8) (X.drop (u + (bsz N + 7) / 8 * i))).set ((bsz N + 7) / 8 - 1) ((takN ((bsz N + 7) / 8) (X.drop (u + (bsz N + 7) / 8 * i))).getD ((bsz N + 7) / 8 - 1) 0 &&& ((1 * 2 ^ (bsz N % 8) % 256 + (256 - 1)) % 256)) ++ List.replicate cz 0)) 5 ((takN (((bsz N) + 7) / 8) (X.drop (u + (bsz N + 7) / 8 * i))).length + cz, (takN (((bsz N) + 7) / 8) (X.drop (u + (bsz N + 7) / 8 * i))).length + cz + 1)) :: (g, oC #[sB X, iN (u + (bsz N + 7) / 8 * (i + 1))] 29) :: ([] : Blks))) (by kernel_rfl) (by kernel_rfl) (by kernel_rfl) (fun _ => by kernel_rfl) (fun _ _ => by kernel_rfl) trivial (fun nb => ⟨(vI (takN_len _ _)), (by omega), (by omega), (by rw [takN_len]; omega), rfl, ((cn_get _ _ _ (by rw [List.length_append, takN_len]; omega)).trans (congrArg some (vI (getD_app_l _ _ _ (by rw [takN_len]; omega))))), (by decide), (by decide), (takN_lt hXi _ _), (Nat.mod_lt _ (by decide)), (by rw [takN_len]; omega), trivial⟩) (fun nb => ⟨rfl, (by rw [cn_size, List.length_append, takN_len]; omega), (.inr (by rw [takN_len]; show _ < _; omega)), ((cn_set _ _ _ _).trans (congrArg _ (setY_rep (by rw [takN_len]; omega)))), fun ac11 wd11 FF11 MM11 => ?_⟩)
        refine then_n ?_
        exact ⟨(takN ((bsz N + 7) / 8) (X.drop (u + (bsz N + 7) / 8 * i))).set ((bsz N + 7) / 8 - 1) ((takN ((bsz N + 7) / 8) (X.drop (u + (bsz N + 7) / 8 * i))).getD ((bsz N + 7) / 8 - 1) 0 &&& ((1 * 2 ^ (bsz N % 8) % 256 + (256 - 1)) % 256)), (by rw [List.length_set]), hY2, (bit_ref hXi hs38), FF11.pick [0, 1, 2, 3, 4, 5], MM11⟩
      · refine wp_cond_false ((FF10.ev 0 rfl).trans (dec_f hs38)) ?_
        refine wp_skip ?_
        refine then_n ?_
        exact ⟨takN ((bsz N + 7) / 8) (X.drop (u + (bsz N + 7) / 8 * i)), rfl, (takN_lt hXi _), (bit_ref0 hXi (Classical.byContradiction hs38)), FF10.pick [1, 2, 3, 4, 5, 6], MM10⟩
    · rintro ac12 wd12 ⟨Z, hZl, hZb, hZv, FF12, MM12⟩
      refine wp_seq (rg_seq FF12 MM12 [o_, l_ 0 (sB Z), t_ (sB (minB (bitN (bsz N) (X.drop (u + (bsz N + 7) / 8 * i))))), o_] [10, 9, 8, 0, 1, 2, 11] (fun Kt => bs_ = bs_ ∧ StrAt (cn .u8 (Z ++ List.replicate cz 0)) 0 ((takN (((bsz N) + 7) / 8) (X.drop (u + (bsz N + 7) / 8 * i))).length) (bs Z) ∧ CallP Tryd.prog 22 [sB Z] [] (sB (minB (bitN (bsz N) (X.drop (u + (bsz N + 7) / 8 * i))))) ∧ Kt [(11, sB (minB (bitN (bsz N) (X.drop (u + (bsz N + 7) / 8 * i))))), (10, .slice (some ⟨bs_, 0, none⟩) ((takN (((bsz N) + 7) / 8) (X.drop (u + (bsz N + 7) / 8 * i))).length) ((takN (((bsz N) + 7) / 8) (X.drop (u + (bsz N + 7) / 8 * i))).length + cz)), (9, iN i), (8, iN (bsz N)), (0, pT g), (1, sB (minB N)), (2, iN k)] ((bs_, .cells (cn .u8 (Z ++ List.replicate cz 0)) 5 ((takN ((bsz N + 7) / 8) (X.drop (u + (bsz N + 7) / 8 * i))).length + cz, (takN ((bsz N + 7) / 8) (X.drop (u + (bsz N + 7) / 8 * i))).length + cz + 1)) :: (g, oC #[sB X, iN (u + (bsz N + 7) / 8 * (i + 1))] 29) :: ([] : Blks))) (by kernel_rfl) (fun _ => by kernel_rfl) (⟨rfl, (strY_rep hZl hZb), (by have h0 := callP_of en_rbytes (bytes_any Z hZb (by rw [hZl, takN_len]; omega)) []; rw [hZv] at h0; exact h0), fun ac13 wd13 FF13 MM13 => then_n ?_⟩))
      have hsb := sz_bit (X.drop (u + (bsz N + 7) / 8 * i)) hb
      refine wp_seq (rg_seq FF13 MM13 [o_, o_, t_ (.int .i64 (cmpN (bitN (bsz N) (X.drop (u + (bsz N + 7) / 8 * i))) N : Int)), w_ 4] [11, 10, 9, 8, 0, 1, 2, 57] (fun Kt => CallP Tryd.prog 36 [sB (minB (bitN (bsz N) (X.drop (u + (bsz N + 7) / 8 * i)))), sB (minB N)] [] (.int .i64 (cmpN (bitN (bsz N) (X.drop (u + (bsz N + 7) / 8 * i))) N : Int)) ∧ Kt [(57, .bool (decide ((cmpN (bitN (bsz N) (X.drop (u + (bsz N + 7) / 8 * i))) N) < ((0 : Nat) : Int)))), (11, sB (minB (bitN (bsz N) (X.drop (u + (bsz N + 7) / 8 * i))))), (10, .slice (some ⟨bs_, 0, none⟩) ((takN (((bsz N) + 7) / 8) (X.drop (u + (bsz N + 7) / 8 * i))).length) ((takN (((bsz N) + 7) / 8) (X.drop (u + (bsz N + 7) / 8 * i))).length + cz)), (9, iN i), (8, iN (bsz N)), (0, pT g), (1, sB (minB N)), (2, iN k)] ((bs_, .cells (cn .u8 (Z ++ List.replicate cz 0)) 5 ((takN ((bsz N + 7) / 8) (X.drop (u + (bsz N + 7) / 8 * i))).length + cz, (takN ((bsz N + 7) / 8) (X.drop (u + (bsz N + 7) / 8 * i))).length + cz + 1)) :: (g, oC #[sB X, iN (u + (bsz N + 7) / 8 * (i + 1))] 29) :: ([] : Blks))) (by kernel_rfl) (fun _ => by kernel_rfl) (⟨(callP_of en_rcmp (cmp_any (bitN (bsz N) (X.drop (u + (bsz N + 7) / 8 * i))) N (by omega)) _), fun ac14 wd14 FF14 MM14 => then_n ?_⟩))
      by_cases hs57 : (cmpN (bitN (bsz N) (X.drop (u + (bsz N + 7) / 8 * i))) N) < ((0 : Nat) : Int)
      · refine wp_cond_true ((FF14.ev 0 rfl).trans (dec_t hs57)) ?_
        have hE := und_yes hI hlt (by rw [List.drop_drop]; exact (cmp_neg _ _).1 hs57)
        refine wp_seq (rg_seq FF14 MM14 [o_, o_, o_] [11, 10, 9, 8, 0, 1, 2, 6, 7] (fun Kt => Kt [(7, iN 0), (6, sB (minB (bitN (bsz N) (X.drop (u + (bsz N + 7) / 8 * i))))), (11, sB (minB (bitN (bsz N) (X.drop (u + (bsz N + 7) / 8 * i))))), (10, .slice (some ⟨bs_, 0, none⟩) ((takN (((bsz N) + 7) / 8) (X.drop (u + (bsz N + 7) / 8 * i))).length) ((takN (((bsz N) + 7) / 8) (X.drop (u + (bsz N + 7) / 8 * i))).length + cz)), (9, iN i), (8, iN (bsz N)), (0, pT g), (1, sB (minB N)), (2, iN k)] ((bs_, .cells (cn .u8 (Z ++ List.replicate cz 0)) 5 ((takN ((bsz N + 7) / 8) (X.drop (u + (bsz N + 7) / 8 * i))).length + cz, (takN ((bsz N + 7) / 8) (X.drop (u + (bsz N + 7) / 8 * i))).length + cz + 1)) :: (g, oC #[sB X, iN (u + (bsz N + 7) / 8 * (i + 1))] 29) :: ([] : Blks))) (by kernel_rfl) (fun _ => by kernel_rfl) (fun ac15 wd15 FF15 MM15 => then_n ?_))
        refine wp_ret ?_
        repeat first | refine then_ret ?_ | refine inb_ret ?_
        exact (ret_tup2 FF15 1 0 Tryd.results21 rfl rfl (by rw [hE]; exact ⟨by rw [List.drop_drop], MM15.turn (O := []) (fun i x hx => by simp at hx) 1 rfl (fun x hx => (nomatch hx))⟩))
      · refine wp_cond_false ((FF14.ev 0 rfl).trans (dec_f hs57)) ?_
        have hno := fun h => hs57 ((cmp_neg _ _).2 h)
        refine wp_skip ?_
        refine inb_n (then_n ?_)
        refine rg_seq FF14 MM14 [o_, o_, o_] [11, 10, 9, 8, 0, 1, 2] (fun Kt => i + 1 < 9223372036854775808 ∧ Kt [(9, iN (i + 1)), (11, sB (minB (bitN (bsz N) (X.drop (u + (bsz N + 7) / 8 * i))))), (10, .slice (some ⟨bs_, 0, none⟩) ((takN (((bsz N) + 7) / 8) (X.drop (u + (bsz N + 7) / 8 * i))).length) ((takN (((bsz N) + 7) / 8) (X.drop (u + (bsz N + 7) / 8 * i))).length + cz)), (8, iN (bsz N)), (0, pT g), (1, sB (minB N)), (2, iN k)] ((bs_, .cells (cn .u8 (Z ++ List.replicate cz 0)) 5 ((takN ((bsz N + 7) / 8) (X.drop (u + (bsz N + 7) / 8 * i))).length + cz, (takN ((bsz N + 7) / 8) (X.drop (u + (bsz N + 7) / 8 * i))).length + cz + 1)) :: (g, oC #[sB X, iN (u + (bsz N + 7) / 8 * (i + 1))] 29) :: ([] : Blks))) (by kernel_rfl) (fun _ => by kernel_rfl) (⟨(by omega), fun ac16 wd16 FF16 MM16 => ?_⟩)
        have hd := cnt_of (FF16.get 0 rfl)
        refine then_n ⟨⟨i + 1, by omega, und_no hI hlt (by rw [List.drop_drop]; exact hno), FF16.pick [0, 3, 4, 5, 6], (MM16.dropAt 0)⟩, ?_⟩
        rw [hc, hd]; omega
  · skip
    refine then_n (.inr ⟨(FF6.ev 0 rfl).trans (dec_f hlt), ?_⟩)
    have hik : i = k := by omega
    subst hik
    have hE := und_end hI
    refine then_n ?_
    refine wp_seq (rg_seq FF6 MM6 [o_, o_] [9, 8, 0, 1, 2, 6, 7] (fun Kt => Kt [(7, iN 3), (6, sB []), (9, iN i), (8, iN (bsz N)), (0, pT g), (1, sB (minB N)), (2, iN i)] ((g, oC #[sB X, iN (u + (bsz N + 7) / 8 * i)] 29) :: ([] : Blks))) (by kernel_rfl) (fun _ => by kernel_rfl) (fun ac17 wd17 FF17 MM17 => then_n ?_))
    refine wp_ret ?_
    repeat first | refine then_ret ?_ | refine inb_ret ?_
    exact (ret_tup2 FF17 1 0 Tryd.results21 rfl rfl (by rw [hE]; exact ⟨by rw [minB_zero], MM17.turn (O := []) (fun i x hx => by simp at hx) 0 rfl (fun x hx => (nomatch hx))⟩))
set_option maxRecDepth 100000 in
theorem runder_zero (g : Nat) (N : Nat) (hs : sz N < 1000000) (t : Int) (hz : bsz N < 1)  (w0 : World) :
    Calls Tryd.prog 21 #[pT g, sB (minB N), .int .i64 t] w0 fun e w' => e = .returned (.tuple #[sB [], iN 1]) ∧ Below w0.heap.size w0 w' := by
  refine enter_fr Tryd.func21 rfl Tryd.ntmps21 (by simp) fun ac (FF : Fr 59 ac [(0, pT g), (1, sB (minB N)), (2, .int .i64 (t : Int))]) => ?_
  have MM := MemS.start w0
  refine wp_seq (rg_seq FF MM [o_, o_] [0, 1, 2, 6, 7] (fun Kt => Kt [(7, iN 0), (6, sB []), (0, pT g), (1, sB (minB N)), (2, .int .i64 (t : Int))] []) (by kernel_rfl) (fun _ => by kernel_rfl) (fun ac1 wd1 FF1 MM1 => then_n ?_))
  refine wp_seq (rg_seq FF1 MM1 [o_, t_ (iN (bsz N)), o_] [7, 6, 0, 1, 2, 8] (fun Kt => CallP Tryd.prog 35 [sB (minB N)] [] (iN (bsz N)) ∧ Kt [(8, iN (bsz N)), (7, iN 0), (6, sB []), (0, pT g), (1, sB (minB N)), (2, .int .i64 (t : Int))] []) (by kernel_rfl) (fun _ => by kernel_rfl) (⟨(callP_of en_rbits (bits8_any N hs) _), fun ac2 wd2 FF2 MM2 => then_n ?_⟩))
  refine wp_seq ?_
  refine wp_seq (rg_seq FF2 MM2 [o_, w_ 2, o_, o_, o_, o_, o_, o_, o_, o_, o_] [8, 7, 6, 0, 1, 2, 24] (fun Kt => (bsz N) < 1 ∧ Kt [(24, .bool true), (8, iN (bsz N)), (7, iN 0), (6, sB []), (0, pT g), (1, sB (minB N)), (2, .int .i64 (t : Int))] []) (by kernel_rfl) (fun _ => by kernel_rfl) (⟨hz, fun ac3 wd3 FF3 MM3 => then_n ?_⟩))
  refine wp_cond_true (FF3.ev 0 rfl) ?_
  refine wp_seq (rg_seq FF3 MM3 [o_, o_] [8, 7, 6, 0, 1, 2] (fun Kt => Kt [(7, iN 1), (6, sB []), (8, iN (bsz N)), (0, pT g), (1, sB (minB N)), (2, .int .i64 (t : Int))] []) (by kernel_rfl) (fun _ => by kernel_rfl) (fun ac4 wd4 FF4 MM4 => then_n ?_))
  refine wp_ret ?_
  repeat first | refine then_ret ?_ | refine inb_ret ?_
  exact (ret_tup2 FF4 1 0 Tryd.results21 rfl rfl ⟨rfl, MM4.below⟩)
set_option maxRecDepth 100000 in
theorem runder_big (g : Nat) (N : Nat) (hs : sz N < 1000000) (t : Int) (hz : bsz N > 1024)  (w0 : World) :
    Calls Tryd.prog 21 #[pT g, sB (minB N), .int .i64 t] w0 fun e w' => e = .returned (.tuple #[sB [], iN 1]) ∧ Below w0.heap.size w0 w' := by
  refine enter_fr Tryd.func21 rfl Tryd.ntmps21 (by simp) fun ac (FF : Fr 59 ac [(0, pT g), (1, sB (minB N)), (2, .int .i64 (t : Int))]) => ?_
  have MM := MemS.start w0
  refine wp_seq (rg_seq FF MM [o_, o_] [0, 1, 2, 6, 7] (fun Kt => Kt [(7, iN 0), (6, sB []), (0, pT g), (1, sB (minB N)), (2, .int .i64 (t : Int))] []) (by kernel_rfl) (fun _ => by kernel_rfl) (fun ac1 wd1 FF1 MM1 => then_n ?_))
  refine wp_seq (rg_seq FF1 MM1 [o_, t_ (iN (bsz N)), o_] [7, 6, 0, 1, 2, 8] (fun Kt => CallP Tryd.prog 35 [sB (minB N)] [] (iN (bsz N)) ∧ Kt [(8, iN (bsz N)), (7, iN 0), (6, sB []), (0, pT g), (1, sB (minB N)), (2, .int .i64 (t : Int))] []) (by kernel_rfl) (fun _ => by kernel_rfl) (⟨(callP_of en_rbits (bits8_any N hs) _), fun ac2 wd2 FF2 MM2 => then_n ?_⟩))
  refine wp_seq ?_
  refine wp_seq (rg_seq FF2 MM2 [o_, w_ 3, o_, o_, w_ 2, o_, o_, o_, o_, o_, o_] [8, 7, 6, 0, 1, 2, 24] (fun Kt => ¬ ((bsz N) < 1) ∧ (bsz N) > 1024 ∧ Kt [(24, .bool true), (8, iN (bsz N)), (7, iN 0), (6, sB []), (0, pT g), (1, sB (minB N)), (2, .int .i64 (t : Int))] []) (by kernel_rfl) (fun _ => by kernel_rfl) (⟨(by omega), hz, fun ac3 wd3 FF3 MM3 => then_n ?_⟩))
  refine wp_cond_true (FF3.ev 0 rfl) ?_
  refine wp_seq (rg_seq FF3 MM3 [o_, o_] [8, 7, 6, 0, 1, 2] (fun Kt => Kt [(7, iN 1), (6, sB []), (8, iN (bsz N)), (0, pT g), (1, sB (minB N)), (2, .int .i64 (t : Int))] []) (by kernel_rfl) (fun _ => by kernel_rfl) (fun ac4 wd4 FF4 MM4 => then_n ?_))
  refine wp_ret ?_
  repeat first | refine then_ret ?_ | refine inb_ret ?_
  exact (ret_tup2 FF4 1 0 Tryd.results21 rfl rfl ⟨rfl, MM4.below⟩)
set_option maxRecDepth 100000 in
theorem runder_tlo (g : Nat) (N : Nat) (hs : sz N < 1000000) (t : Int) (h1 : 1 ≤ bsz N) (hb : bsz N ≤ 1024) (hz : t < 1)  (w0 : World) :
    Calls Tryd.prog 21 #[pT g, sB (minB N), .int .i64 t] w0 fun e w' => e = .returned (.tuple #[sB [], iN 1]) ∧ Below w0.heap.size w0 w' := by
  refine enter_fr Tryd.func21 rfl Tryd.ntmps21 (by simp) fun ac (FF : Fr 59 ac [(0, pT g), (1, sB (minB N)), (2, .int .i64 (t : Int))]) => ?_
  have MM := MemS.start w0
  refine wp_seq (rg_seq FF MM [o_, o_] [0, 1, 2, 6, 7] (fun Kt => Kt [(7, iN 0), (6, sB []), (0, pT g), (1, sB (minB N)), (2, .int .i64 (t : Int))] []) (by kernel_rfl) (fun _ => by kernel_rfl) (fun ac1 wd1 FF1 MM1 => then_n ?_))
  refine wp_seq (rg_seq FF1 MM1 [o_, t_ (iN (bsz N)), o_] [7, 6, 0, 1, 2, 8] (fun Kt => CallP Tryd.prog 35 [sB (minB N)] [] (iN (bsz N)) ∧ Kt [(8, iN (bsz N)), (7, iN 0), (6, sB []), (0, pT g), (1, sB (minB N)), (2, .int .i64 (t : Int))] []) (by kernel_rfl) (fun _ => by kernel_rfl) (⟨(callP_of en_rbits (bits8_any N hs) _), fun ac2 wd2 FF2 MM2 => then_n ?_⟩))
  refine wp_seq ?_
  refine wp_seq (rg_seq FF2 MM2 [o_, w_ 3, o_, o_, w_ 3, o_, o_, o_, t_ (.bool false), o_, o_] [8, 7, 6, 0, 1, 2, 24] (fun Kt => ¬ ((bsz N) < 1) ∧ ¬ ((bsz N) > 1024) ∧ CallP Tryd.prog 32 [.int .i64 (t : Int)] [] (.bool false) ∧ Kt [(24, .bool true), (8, iN (bsz N)), (7, iN 0), (6, sB []), (0, pT g), (1, sB (minB N)), (2, .int .i64 (t : Int))] []) (by kernel_rfl) (fun _ => by kernel_rfl) (⟨(by omega), (by omega), (callP_of en_tries (tries_lo t hz) _), fun ac3 wd3 FF3 MM3 => then_n ?_⟩))
  refine wp_cond_true (FF3.ev 0 rfl) ?_
  refine wp_seq (rg_seq FF3 MM3 [o_, o_] [8, 7, 6, 0, 1, 2] (fun Kt => Kt [(7, iN 1), (6, sB []), (8, iN (bsz N)), (0, pT g), (1, sB (minB N)), (2, .int .i64 (t : Int))] []) (by kernel_rfl) (fun _ => by kernel_rfl) (fun ac4 wd4 FF4 MM4 => then_n ?_))
  refine wp_ret ?_
  repeat first | refine then_ret ?_ | refine inb_ret ?_
  exact (ret_tup2 FF4 1 0 Tryd.results21 rfl rfl ⟨rfl, MM4.below⟩)
set_option maxRecDepth 100000 in
theorem runder_thi (g : Nat) (N : Nat) (hs : sz N < 1000000) (t : Int) (h1 : 1 ≤ bsz N) (hb : bsz N ≤ 1024) (hz : t > 16)  (w0 : World) :
    Calls Tryd.prog 21 #[pT g, sB (minB N), .int .i64 t] w0 fun e w' => e = .returned (.tuple #[sB [], iN 1]) ∧ Below w0.heap.size w0 w' := by
  refine enter_fr Tryd.func21 rfl Tryd.ntmps21 (by simp) fun ac (FF : Fr 59 ac [(0, pT g), (1, sB (minB N)), (2, .int .i64 (t : Int))]) => ?_
  have MM := MemS.start w0
  refine wp_seq (rg_seq FF MM [o_, o_] [0, 1, 2, 6, 7] (fun Kt => Kt [(7, iN 0), (6, sB []), (0, pT g), (1, sB (minB N)), (2, .int .i64 (t : Int))] []) (by kernel_rfl) (fun _ => by kernel_rfl) (fun ac1 wd1 FF1 MM1 => then_n ?_))
  refine wp_seq (rg_seq FF1 MM1 [o_, t_ (iN (bsz N)), o_] [7, 6, 0, 1, 2, 8] (fun Kt => CallP Tryd.prog 35 [sB (minB N)] [] (iN (bsz N)) ∧ Kt [(8, iN (bsz N)), (7, iN 0), (6, sB []), (0, pT g), (1, sB (minB N)), (2, .int .i64 (t : Int))] []) (by kernel_rfl) (fun _ => by kernel_rfl) (⟨(callP_of en_rbits (bits8_any N hs) _), fun ac2 wd2 FF2 MM2 => then_n ?_⟩))
  refine wp_seq ?_
  refine wp_seq (rg_seq FF2 MM2 [o_, w_ 3, o_, o_, w_ 3, o_, o_, o_, t_ (.bool false), o_, o_] [8, 7, 6, 0, 1, 2, 24] (fun Kt => ¬ ((bsz N) < 1) ∧ ¬ ((bsz N) > 1024) ∧ CallP Tryd.prog 32 [.int .i64 (t : Int)] [] (.bool false) ∧ Kt [(24, .bool true), (8, iN (bsz N)), (7, iN 0), (6, sB []), (0, pT g), (1, sB (minB N)), (2, .int .i64 (t : Int))] []) (by kernel_rfl) (fun _ => by kernel_rfl) (⟨(by omega), (by omega), (callP_of en_tries (tries_hi t hz) _), fun ac3 wd3 FF3 MM3 => then_n ?_⟩))
  refine wp_cond_true (FF3.ev 0 rfl) ?_
  refine wp_seq (rg_seq FF3 MM3 [o_, o_] [8, 7, 6, 0, 1, 2] (fun Kt => Kt [(7, iN 1), (6, sB []), (8, iN (bsz N)), (0, pT g), (1, sB (minB N)), (2, .int .i64 (t : Int))] []) (by kernel_rfl) (fun _ => by kernel_rfl) (fun ac4 wd4 FF4 MM4 => then_n ?_))
  refine wp_ret ?_
  repeat first | refine then_ret ?_ | refine inb_ret ?_
  exact (ret_tup2 FF4 1 0 Tryd.results21 rfl rfl ⟨rfl, MM4.below⟩)
end Go.Proofs.YtdeiodcfblldgaaDoor
namespace Go.Proofs.YtdeiodcfblldgaaDoor
open Go.RowKit
theorem en_wakes : Enters Tryd.prog 9 := fun args w => by simp [go_sem]
theorem en_knat : Enters Tryd.prog 23 := fun args w => by simp [go_sem]
theorem en_Fair : Enters Tryd.prog 8 := fun args w => by simp [go_sem]
theorem qok {N : Nat} (h : N < 18446744073709551616 ^ 100) : qsz N < 1000000 := Nat.lt_of_le_of_lt (qsz_le h) (by decide)
theorem ntext0_w (x : Value) (w : World) (hM : NatIn w (nv 0 x) 0) : Calls Tryd.prog 27 #[.agg #[nv 0 x]] w fun e w' => e = .returned (sB [48]) ∧ Below w.heap.size w w' := by
  obtain ⟨O, h1, h2, h3⟩ := nat1_O hM
  exact ntext_zero O h2 0 x h3 (by decide) rfl w h1
theorem MemS.apartO {S : Nat → Prop} {w0 w : World} {K O : Blks} {R : List Row} {g : Nat} {ob : Obj} (M : MemS S w0 w (K ++ O) R) (i : Nat) (hi : K[i]? = some (g, ob)) : ∀ x ∈ O, x.1 ≠ g := fun x hx => by
  obtain ⟨j, hj⟩ := List.mem_iff_getElem?.1 hx
  have hl : i < K.length := by
    rcases Nat.lt_or_ge i K.length with h | h
    · exact h
    · rw [List.getElem?_eq_none h] at hi; cases hi
  exact M.apart (K.length + j) i x (g, ob) (by rw [List.getElem?_append_right (Nat.le_add_right _ _), Nat.add_sub_cancel_left]; exact hj) (by rw [List.getElem?_append_left hl]; exact hi) (by omega)
theorem natO_ne {O : Blks} {N g : Nat} {y : Value} (h : NatO O (nv N y) N) (hg : ∀ x ∈ O, x.1 ≠ g) : ∀ g', (nv N y).ownBlock = some g' → g' ≠ g := fun g' hg' => by
  obtain ⟨p, c, h1, h2, _, _, h4⟩ := h
  rw [h1] at hg'
  rcases h4 with h4 | ⟨b, cs, T, fr, rfl, h5, h6⟩
  · have := (h2 (qz0 h4)).1
    subst this
    cases hg'
  · obtain rfl : b = g' := by simpa [Value.ownBlock] using hg'
    exact hg _ h5
theorem leV_100 {X : List Nat} (hX : ∀ i, X.getD i 0 < 256) (h : X.length ≤ 140) : leV X < 18446744073709551616 ^ 100 := Nat.lt_of_lt_of_le (leV_lt X hX) (Nat.le_trans (Nat.pow_le_pow_right (by decide) h) (by decide +kernel))
theorem qsz_un {N b k : Nat} {X : List Nat} (hN : N < 2 ^ b) (hb : b ≤ 1024) : qsz (undN N b k X).1 < 1000000 := qok (Nat.lt_of_lt_of_le (und_lt hN k X) (Nat.le_trans (Nat.pow_le_pow_right (by decide) hb) (by decide +kernel)))
set_option maxRecDepth 100000 in
theorem wakes_any (O : Blks) (hD : Distinct O) (hT : TabO O) (w0 : World) (H : Has w0 O) :
    Calls Tryd.prog 9 #[] w0 fun e w' => e = .returned (.bool true) ∧ Below w0.heap.size w0 w' := by
  refine enter_fr Tryd.func9 rfl Tryd.ntmps9 (by simp) fun ac (FF : Fr 56 ac []) => ?_
  have MM : MemS (fun k => k < w0.heap.size ∧ ∀ x ∈ O, x.1 ≠ k) w0 w0 O [] := MemS.startN H hD
  refine wp_seq (rg_seq FF MM [o_] [0] (fun Kt => Kt [(0, .bool false)] O) (by kernel_rfl) (fun _ => by kernel_rfl) (fun ac1 wd1 FF1 MM1 => then_n ?_))
  refine wp_seq (wp_region_list ?_)
  refine st_callE [0, 9] FF1 (d := 9) (mk := fun v => v) en_tnew rfl rfl (tnew_any ([255, 255, 7, 0, 97, 98]) _) rfl (by kernel_rfl) (by decide) fun ac3 wd3 lv2 (FF3 : Fr 56 ac3 [(9, lv2), (0, .bool false)]) hr4 => ?_
  obtain ⟨gt, rfl, hB_gt, hf_gt, hb_gt⟩ := hr4
  have MM5 := MM1.keep hB_gt
  have MM6 : MemS (fun k => k < w0.heap.size ∧ ∀ x ∈ O, x.1 ≠ k) w0 wd3 ((gt, oC #[sB ([255, 255, 7, 0, 97, 98]), iN 0] 73) :: O) [] := MM1.addFresh MM5 hb_gt hf_gt
  refine rg_part 1 FF3 MM6 [o_] [0, 1] (fun Kt => Kt [(1, pT gt), (0, .bool false)] ((gt, oC #[sB ([255, 255, 7, 0, 97, 98]), iN 0] 73) :: O)) (by kernel_rfl) (fun _ => by kernel_rfl) (fun ac7 wd7 FF7 MM7 => ?_)
  refine wpl_nil (then_n ?_)
  refine wp_seq (rg_seq FF7 MM7 [o_, c_ (.tuple #[iN 7, iN 0]) [(0, oC #[sB ([97, 98]), iN 4] 73)], o_, o_, o_, o_, o_] [1, 0, 2, 3] (fun Kt => CallU Tryd.prog 17 [pT gt, iN 10, iN 2] ((gt, oC #[sB ([255, 255, 7, 0, 97, 98]), iN 0] 73) :: O) (.tuple #[iN 7, iN 0]) [(0, oC #[sB ([97, 98]), iN 4] 73)] ∧ Kt [(3, iN 0), (2, iN 7), (1, pT gt), (0, .bool false)] ((gt, oC #[sB ([97, 98]), iN 4] 73) :: O)) (by kernel_rfl) (fun _ => by kernel_rfl) (⟨(callU_turn en_tbelow (g := gt) (ob := TB ([255, 255, 7, 0, 97, 98]) 0) rfl fun w hg => by have h0 := tbelow_any gt ([255, 255, 7, 0, 97, 98]) 0 (lit_lt (by kernel_rfl)) (by decide) 10 2 (by decide) (by decide) (by decide) (by decide) w hg; rw [show belN 10 2 [255, 255, 7, 0, 97, 98] = (7, 0, 4) by decide +kernel] at h0; exact h0), fun ac8 wd8 FF8 MM8 => then_n ?_⟩))
  refine wp_seq (rg_seq FF8 MM8 [o_, c_ (sB ([97, 98, 0])) [(0, oC #[sB [], iN 7] 73)], o_] [3, 2, 1, 0, 4] (fun Kt => CallU Tryd.prog 11 [pT gt, iN 3] ((gt, oC #[sB ([97, 98]), iN 4] 73) :: O) (sB ([97, 98, 0])) [(0, oC #[sB [], iN 7] 73)] ∧ Kt [(4, sB ([97, 98, 0])), (3, iN 0), (2, iN 7), (1, pT gt), (0, .bool false)] ((gt, oC #[sB [], iN 7] 73) :: O)) (by kernel_rfl) (fun _ => by kernel_rfl) (⟨(callU_turn en_take (g := gt) (ob := TB ([97, 98]) 4) rfl fun w hg => by have h0 := take_any gt 3 ([97, 98]) 4 (lit_lt (by kernel_rfl)) (by decide) (by decide) w hg; rw [show takN 3 [97, 98] = [97, 98, 0] by decide] at h0; exact h0), fun ac9 wd9 FF9 MM9 => then_n ?_⟩))
  refine wp_seq (rg_seq FF9 MM9 [o_, t_ (.tuple #[iN 0, iN 1]), o_, o_, o_, o_, o_] [4, 3, 2, 1, 0, 6] (fun Kt => CallP Tryd.prog 17 [pT gt, iN 0, iN 1] [] (.tuple #[iN 0, iN 1]) ∧ Kt [(6, iN 1), (4, sB ([97, 98, 0])), (3, iN 0), (2, iN 7), (1, pT gt), (0, .bool false)] ((gt, oC #[sB [], iN 7] 73) :: O)) (by kernel_rfl) (fun _ => by kernel_rfl) (⟨(callP_of en_tbelow (tbelow_lo gt ((0 : Nat) : Int) ((1 : Nat) : Int)  (by decide)) _), fun ac10 wd10 FF10 MM10 => then_n ?_⟩))
  refine wp_seq (wp_region_list ?_)
  refine rg_part 1 FF10 MM10 [o_] [6, 4, 3, 2, 1, 0, 23] (fun Kt => Kt [(23, pT gt), (6, iN 1), (4, sB ([97, 98, 0])), (3, iN 0), (2, iN 7), (1, pT gt), (0, .bool false)] ((gt, oC #[sB [], iN 7] 73) :: O)) (by kernel_rfl) (fun _ => by kernel_rfl) (fun ac11 wd11 FF11 MM11 => ?_)
  refine st_callE [23, 6, 4, 3, 2, 1, 0, 24] FF11 (d := 24) (mk := fun v => .agg #[nv (3) v]) en_nof rfl rfl (nof_any 3 (by decide) _) rfl (by kernel_rfl) (by decide) fun ac13 wd13 lv12 (FF13 : Fr 56 ac13 [(24, aG #[nv 3 lv12]), (23, pT gt), (6, iN 1), (4, sB ([97, 98, 0])), (3, iN 0), (2, iN 7), (1, pT gt), (0, .bool false)]) hr14 => ?_
  obtain ⟨O15, MM160, hN17, hs18⟩ := MemS.addNats (K := [(gt, oC #[sB [], iN 7] 73)]) (O := O) MM11 hr14.1 hr14.2 (Nats.nil O)
  have MM16 : MemS (fun k => k < w0.heap.size ∧ ∀ x ∈ O, x.1 ≠ k) w0 wd13 ((gt, oC #[sB [], iN 7] 73) :: O15) [] := MM160
  have hT_19 := hT.mono hs18
  refine st_callE [6, 4, 3, 2, 1, 0, 25] FF13 (d := 25) (mk := fun v => .tuple #[.agg #[nv 0 v], iN 0]) en_tunder rfl rfl (by have h0 := tunder_any gt [] 7 (lit_lt (by kernel_rfl)) (by decide) 3 lv12 1 (by decide +kernel) (by decide +kernel) (by decide) (by decide) wd13 (MM16.get 0 rfl) ((hN17.get 0 rfl).at (Has.tl MM16.hasL)) (natO_ne (hN17.get 0 rfl) (MemS.apartO (K := [(gt, oC #[sB [], iN 7] 73)]) MM16 0 rfl)); rw [show undN 3 (bsz 3) 1 [] = (0, 0, 1) by decide +kernel] at h0; exact h0) rfl (by kernel_rfl) (by decide) fun ac21 wd21 lv20 (FF21 : Fr 56 ac21 [(25, .tuple #[aG #[nv 0 lv20], iN 0]), (6, iN 1), (4, sB ([97, 98, 0])), (3, iN 0), (2, iN 7), (1, pT gt), (0, .bool false)]) hr22 => ?_
  obtain ⟨ht9, hn9⟩ := hr22
  have MM23 : MemS (fun k => k < w0.heap.size ∧ ∀ x ∈ O, x.1 ≠ k) w0 wd21 ((gt, oC #[sB [], iN 8] 73) :: O15) [] := MM16.turnAt ht9 0 rfl
  obtain ⟨O24, MM250, hN26, hs27⟩ := MemS.addNatsT (K := [(gt, oC #[sB [], iN 8] 73)]) (O := O15) MM16 MM23 rfl hn9 hN17
  have MM25 : MemS (fun k => k < w0.heap.size ∧ ∀ x ∈ O, x.1 ≠ k) w0 wd21 ((gt, oC #[sB [], iN 8] 73) :: O24) [] := MM250
  have hT_28 := hT_19.mono hs27
  have hz29 : ∀ x ∈ O, x ∈ O24 := fun x hx => hs27 x (hs18 x hx)
  refine rg_part 6 FF21 MM25 [o_, o_, o_, o_, b_ 0, o_] [6, 4, 3, 2, 1, 0, 7, 8] (fun Kt => ∀ bv, bv = bv ∧ (#[.slice none 0 0] : Array Value).size = 1 ∧ (#[nv 0 lv20] : Array Value).size = 1 ∧ (#[nv 0 lv20] : Array Value).all (·.oneCell') = true ∧ (0, 0).2 = 0 ∧ Kt [(8, iN 0), (7, pT bv), (6, iN 1), (4, sB ([97, 98, 0])), (3, iN 0), (2, iN 7), (1, pT gt), (0, .bool false)] ((bv, oC #[nv 0 lv20] 49) :: (gt, oC #[sB [], iN 8] 73) :: O24)) (by kernel_rfl) (fun _ => by kernel_rfl) (fun bv => ⟨rfl, rfl, rfl, (by kernel_rfl), rfl, fun ac30 wd30 FF30 MM30 => ?_⟩)
  refine wpl_nil (then_n ?_)
  refine wp_seq (rg_seq FF30 MM30 [o_, w_ 2, o_, o_, w_ 2, o_, o_, o_, w_ 2, o_, o_, o_, w_ 2, o_, o_, b_ 0, u_ 1 (sB [48]), w_ 2, o_, o_, o_, w_ 2, o_, o_, o_, u_ 1 (iN 8), w_ 2, o_, o_] [7, 1, 0] (fun Kt => 7 = 7 ∧ 0 = 0 ∧ bs ([97, 98, 0]) = bs ([97, 98, 0]) ∧ 1 = 1 ∧ bv = bv ∧ (#[nv 0 lv20] : Array Value).size = 1 ∧ CallP Tryd.prog 27 [aG #[nv 0 lv20]] ((bv, oC #[nv 0 lv20] 49) :: (gt, oC #[sB [], iN 8] 73) :: O24) (sB [48]) ∧ bs [48] = bs [48] ∧ 0 = 0 ∧ CallP Tryd.prog 24 [pT gt] ((bv, oC #[nv 0 lv20] 49) :: (gt, oC #[sB [], iN 8] 73) :: O24) (iN 8) ∧ 8 = 8 ∧ Kt [(0, .bool true), (7, pT bv), (1, pT gt)] ((bv, oC #[nv 0 lv20] 49) :: (gt, oC #[sB [], iN 8] 73) :: O24)) (by kernel_rfl) (fun _ => by kernel_rfl) (⟨(by decide), (by decide), rfl, (by decide), rfl, rfl, ⟨en_ntext, fun w Hw => ntext0_w lv20 w ((hN26.get 0 rfl).at (Has.tl (Has.tl Hw)))⟩, rfl, (by decide), ⟨en_tused, fun w Hw => tused_any gt [] 8 w (Hw 1 _ rfl)⟩, (by decide), fun ac31 wd31 FF31 MM31 => then_n ?_⟩))
  refine wp_ret ?_
  repeat first | refine then_ret ?_ | refine inb_ret ?_
  exact (ret_fr FF31 0 Tryd.results9 rfl ⟨rfl, MM31.belowN H (fun _ hx => List.mem_cons_of_mem _ (List.mem_cons_of_mem _ (hz29 _ hx)))⟩)
theorem wakes_w (w : World) (hT : TabIn w) : Calls Tryd.prog 9 #[] w fun e w' => e = .returned (.bool true) ∧ Below w.heap.size w w' := by
  obtain ⟨O, g1, g2, g3⟩ := tab_O hT
  exact wakes_any O (distinct_of g2) g3 w g1
end Go.Proofs.YtdeiodcfblldgaaDoor
namespace Go.Proofs.YtdeiodcfblldgaaDoor
open Go.ChangeShapes Go.WideShapes Go.ChangeAt Go.RowKit
theorem Tryd.own : ownKnob Tryd.prog.godebug = Option.none := by kernel_rfl
theorem Tryd.laidOut : laidOutB Tryd.prog = true := by kernel_rfl
section
variable {H : Type} {enc : TypeId × Value → H} {P : Program}
theorem trodAll_below (hl : laidOutB P = true) {W W' : World} (hb : Below W.heap.size W W') : ∀ (ts : List TypeId) (vs : List Value) (ds : List (DataW H)) (ps : List MemPlace), (∀ t ∈ ts, P.readableRec t = true ∧ t < P.types.size) →
    DataW.TrodAll enc P W 0 (fun _ => true) true ts vs ds ps → (∀ x ∈ ps, x.block < W.heap.size) → DataW.TrodAll enc P W' 0 (fun b => decide (b < W.heap.size)) true ts vs ds ps
  | [], [], [], _, _, h, _ => h
  | t :: ts, v :: vs, d :: ds, ps, hr, ⟨p, q, h1, h2, e⟩, hlt => by
    subst e
    obtain ⟨r1, r2⟩ := hr t (by simp)
    exact ⟨p, q, Below.trod hl r1 r2 h1 hb (fun x hx => hlt x (by simp [hx])), trodAll_below hl hb ts vs ds q (fun t ht => hr t (by simp [ht])) h2 (fun x hx => hlt x (by simp [hx])), rfl⟩
  | [], [], _ :: _, _, _, h, _ => h.elim
  | [], _ :: _, _, _, _, h, _ => by cases h
  | _ :: _, [], _, _, _, h, _ => by cases h
  | _ :: _, _ :: _, [], _, _, h, _ => h.elim
/-- What is asked behind a law's walk. -/
theorem post_true {f : Func} {s : ChangeSpec} {W W' : World} {args : Array Value} {ds : List (DataW H)} {before : List MemPlace} {T : TypeId} (hl : laidOutB P = true) (hr : ∀ t ∈ f.params.toList, P.readableRec t = true ∧ t < P.types.size) (hv : s.vars = [])
    (hW : DataW.Whole enc P f.params.toList s.vars false W args.toList ds [] before) (hres : (s.fn H (ds ++ [])).results = [.lit (.bool true)]) (hargs : (s.fn H (ds ++ [])).args = ds) (hvs : (s.fn H (ds ++ [])).vars = [])
    (hT : f.resultTypes = #[T]) (hu : P.underlying T = some .bool) (hb : Below W.heap.size W W') : s.post enc P f false true false false W args (.bool true) W' := by
  have hlt := hW.lt
  have hW' := hW
  obtain ⟨p, q, hA, hV, rfl, _, _⟩ := hW'
  refine ⟨ds, [], p ++ q, [], p, [], hW, ?_, ?_, ?_, hb.frame _, fun h => by cases h⟩
  · rw [hres, hT]
    exact trodAll_cons_mk (shut_bool hu _) rfl
  · rw [hargs]
    exact trodAll_below hl hb _ _ _ _ hr hA (fun x hx => hlt x (by simp [hx]))
  · rw [hvs, hv]
    exact rfl
end
section
variable {H : Type} {enc : TypeId × Value → H} {P : Program}
end
end Go.Proofs.YtdeiodcfblldgaaDoor
namespace Go.Proofs.YtdeiodcfblldgaaDoor
open Go.RowKit
section
variable {P : Program} {w w' : World} {l : Slots} {L O : Blks} {o : Oper} {m n : Nat} {V : Nat → Value} {p : Option Addr}
def oOf (p : Option Addr) : Nat := match p with | some x => x.off | none => 0
/-- From p on, in w, m cells that hold V. -/
def RowIn (w : World) (p : Option Addr) (m : Nat) (V : Nat → Value) : Prop :=
  m = 0 ∨ ∃ (b off : Nat) (cs : Array Value) (T : TypeId) (fr : Nat × Nat), p = some ⟨b, off, none⟩ ∧ w.heap[b]? = some (.cells cs T fr) ∧ ∀ j, j < m → cs[off + j]? = some (V j)
def RowO (O : Blks) (p : Option Addr) (m : Nat) (V : Nat → Value) : Prop :=
  m = 0 ∨ ∃ (b off : Nat) (cs : Array Value) (T : TypeId) (fr : Nat × Nat), p = some ⟨b, off, none⟩ ∧ (b, Obj.cells cs T fr) ∈ O ∧ ∀ j, j < m → cs[off + j]? = some (V j)
theorem RowO.mono {O' : Blks} (h : RowO O p m V) (hs : ∀ x ∈ O, x ∈ O') : RowO O' p m V := by
  rcases h with h | ⟨b, off, cs, T, fr, h1, h2, h3⟩
  · exact .inl h
  · exact .inr ⟨b, off, cs, T, fr, h1, hs _ h2, h3⟩
theorem RowO.at (h : RowO O p m V) (H : Has w O) : RowIn w p m V := by
  rcases h with h | ⟨b, off, cs, T, fr, h1, h2, h3⟩
  · exact .inl h
  · exact .inr ⟨b, off, cs, T, fr, h1, Has.mem H h2, h3⟩
theorem rowX_O (h : RowIn w p m V) (h1 : Has w O) (h2 : O.Pairwise (fun x y => x.1 ≠ y.1)) : ∃ O', Has w O' ∧ O'.Pairwise (fun x y => x.1 ≠ y.1) ∧ RowO O' p m V ∧ ∀ x ∈ O, x ∈ O' := by
  rcases h with h | ⟨b, off, cs, T, fr, q1, q2, q3⟩
  · exact ⟨O, h1, h2, .inl h, fun _ h => h⟩
  · by_cases hb : ∃ x ∈ O, x.1 = b
    · obtain ⟨x, hx, rfl⟩ := hb
      have e : x.2 = .cells cs T fr := Option.some.inj ((Has.mem h1 hx).symm.trans q2)
      exact ⟨O, h1, h2, .inr ⟨x.1, off, cs, T, fr, q1, e ▸ hx, q3⟩, fun _ h => h⟩
    · refine ⟨(b, .cells cs T fr) :: O, fun i x hx => ?_, List.pairwise_cons.2 ⟨fun y hy e => hb ⟨y, hy, e.symm⟩, h2⟩, .inr ⟨b, off, cs, T, fr, q1, by simp, q3⟩, fun _ h => List.mem_cons_of_mem _ h⟩
      cases i with
      | zero => simp at hx; subst hx; exact q2
      | succ i => exact h1 i x (by simpa using hx)
theorem rowX_addr {t e : TypeId} {x y : Operand} {i c k : Nat} (ho : o.op = .indexAddr t x y) (hx : evO l x = some (.slice p n c)) (hy : evO l y = some (.int .i64 (i : Nat))) (ht : P.underlying t = some (.slice e)) (hz : szOf P e = some k) (h : RowO O p m V) (hm : 0 < m) (hi : i < n) :
    RunV P l L o (.pointer (some ⟨gOf p, oOf p + mulSz i k, none⟩)) := fun ρ w A _ => by
  rcases h with h | ⟨b, off, cs, T, fr, rfl, h2, h3⟩
  · omega
  · have e1 := A x _ hx
    have e2 : ρ y = .int .i64 (i : Int) := A y _ hy
    have q := run_idxAddr (P := P) (w := w) (way := 0) (t := t) (u := .slice (some ⟨b, off, none⟩) n c) (z := .pointer (some ⟨b, off + mulSz i k, none⟩)) (i := i) (cs := [i < n]) (by simp [aIdxAddr, ht, hz, addOff]) (fun c hc => by rw [List.mem_singleton] at hc; rw [hc]; exact hi)
    simp only [execOp, ho, e1, e2, Sem.run_bind, q, Result.andThen_ok, Sem.run_pure, gOf, oOf]
theorem rowX_load {t : TypeId} {x : Operand} {j : Nat} {v : Value} {d : TypeDesc} (ho : o.op = .load t x) (hx : evO l x = some (.pointer (some ⟨gOf p, oOf p + j, none⟩))) (ht : P.underlying t = some d) (hd : d.isRow = false) (h : RowO O p m V) (hO : ∀ y ∈ O, y ∈ L) (hj : j < m) (hv : V j = v) : RunV P l L o v := fun ρ w A H => by
  rcases h with h | ⟨b, off, cs, T, fr, rfl, h2, h3⟩
  · omega
  · have e1 : ρ x = .pointer (some ⟨b, off + j, none⟩) := A x _ hx
    have hcell : w.cell? ⟨b, off + j, none⟩ = some v := by rw [cell_of (Has.mem H (hO _ h2)), h3 j hj, hv]
    have hag := isAgg_of (P := P) (w := w) ht
    rw [hd] at hag
    simp only [execOp, ho, e1]
    simp [Instr.loadAt, Instr.sureAddr, loadVar, hag, go_sem, hcell]
theorem rowX_loadA {t : TypeId} {x : Operand} {j k : Nat} {vs : List Value} {d : TypeDesc} (ho : o.op = .load t x) (hx : evO l x = some (.pointer (some ⟨gOf p, oOf p + j, none⟩))) (ht : P.underlying t = some d) (hd : d.isRow = true) (hs : (P.info? t).map (·.size) = some k) (hk : vs.length = k) (h : RowO O p m V) (hO : ∀ y ∈ O, y ∈ L) (hj : j + k ≤ m) (hk0 : 0 < k) (hv : ∀ i, i < k → some (V (j + i)) = vs[i]?) : RunV P l L o (.agg vs.toArray) := fun ρ w A H => by
  rcases h with h | ⟨b, off, cs, T, fr, rfl, h2, h3⟩
  · omega
  · have e1 : ρ x = .pointer (some ⟨b, off + j, none⟩) := A x _ hx
    have := run_loadAt_mid (P := P) w b (off + j) t vs d (fun i v hi => by
      have hl : i < k := by
        rcases Nat.lt_or_ge i k with h | h
        · exact h
        · rw [List.getElem?_eq_none (by omega)] at hi; cases hi
      rw [cell_of (Has.mem H (hO _ h2)), Nat.add_assoc, h3 (j + i) (by omega), hv i hl, hi]) ht hd (by rw [hs, hk])
    simp only [execOp, ho, e1, Sem.run_bind, this, Result.andThen_ok, Sem.run_pure]
end
section
variable {P : Program} {ops : Array Oper} {a : Act} {w0 w : World} {Q : Exit → Act → World → Prop} {n b : Nat} {ob : Obj} {l : Slots} {L : Blks} {S : Nat → Prop} {R : List Row} {o : Oper}
abbrev Stands (b : Nat) (ob : Obj) (w : World) : Prop := w.heap[b]? = some ob
theorem held_open {id N : Nat} (b : Nat) (ob : Obj) (hm : P.follows .mixedOrders = true) (hN : ops.size = N) (M : MemS S w0 w L R) (K : ∀ w', MemS S w0 w' L R → wpAnyH P .any ops Q (Stands b ob) N (Array.replicate N false) a w') : (Code.region id ops true).wp P Q a w := by
  refine wp_region_held (S := Stands b ob) hm ?_
  rw [hN]
  exact K _ (M.keep (w' := { w with drawn := w.drawn + 1 }) ⟨rfl, rfl, rfl, Nat.le_refl _, fun _ _ => rfl⟩)
theorem held_take (F : Fr n a l) {i : Nat} {oi : Oper} {v : Value} {d fuel : Nat} {listed : Array Bool} (hS : w.heap[b]? = some ob) (hi : ops[i]? = some oi) (hs : Region.noSelect ops = true) (hf : Region.free .any ops listed i = true) (hr : (Region.ready .any ops listed).contains i = true)
    (hQ : ∀ c a (d : Nat) v w, Q (.panic c) (a.put (some d) v) w → Q (.panic c) a w) (hd : oi.dst = some d) (hn : d < n) (hg : wantOf ops.toList l oi = some true) (hrun : RunV P l [(b, ob)] oi v)
    (K : ∀ a', Fr n a' (upd d v l) → wpAnyH P .any ops Q (Stands b ob) fuel (listed.setIfInBounds i true) a' w) : wpAnyH P .any ops Q (Stands b ob) (fuel + 1) listed a w := by
  refine wpAnyH_take hi hs hf hr (fun c a w h => by rw [hd] at h; exact hQ c a d v w h) (.inl ⟨wanted_iff hg F.lk, fun w hw => hrun a.eval w F.agr (fun k y hy => by
    cases k with
    | zero => simp at hy; subst hy; exact hw
    | succ k => simp at hy)⟩) hS ?_
  rw [hd]
  exact K _ (F.put _ hn)
theorem held_one {i fuel : Nat} {listed : Array Bool} (hr : Region.ready .any ops listed = [i]) (hi : ops[i]? = some o) (h : wpList P ops (onN (fun a' w' => Stands b ob w' ∧ wpAnyH P .any ops Q (Stands b ob) fuel (listed.setIfInBounds i true) a' w') Q) [o] a w) : wpAnyH P .any ops Q (Stands b ob) (fuel + 1) listed a w :=
  wpAnyH_all hr (by simp) fun k hk => by
    rw [List.mem_singleton] at hk
    subst hk
    exact op_row hi h
theorem held_two {i j fuel : Nat} {oi oj : Oper} {listed : Array Bool} (hr : Region.ready .any ops listed = [i, j]) (hi : ops[i]? = some oi) (hj : ops[j]? = some oj) (h : wpList P ops (onN (fun a' w' => Stands b ob w' ∧ wpAnyH P .any ops Q (Stands b ob) fuel (listed.setIfInBounds i true) a' w') Q) [oi] a w) (h2 : wpList P ops (onN (fun a' w' => Stands b ob w' ∧ wpAnyH P .any ops Q (Stands b ob) fuel (listed.setIfInBounds j true) a' w') Q) [oj] a w) : wpAnyH P .any ops Q (Stands b ob) (fuel + 1) listed a w :=
  wpAnyH_all hr (by simp) fun k hk => by
    simp only [List.mem_cons, List.not_mem_nil, or_false] at hk
    rcases hk with rfl | rfl
    · exact op_row hi h
    · exact op_row hj h2
theorem held_none {listed : Array Bool} {fuel : Nat} (hr : Region.ready .any ops listed = []) (h : Q .normal a w) : wpAnyH P .any ops Q (Stands b ob) fuel listed a w := wpAnyH_done hr h fuel
theorem loadV1 {x : Operand} {t : TypeId} {g i : Nat} {cs : Array Value} {T : TypeId} {fr : Nat × Nat} {v : Value} {d : TypeDesc} (ho : o.op = .load t x) (hx : evO l x = some (.pointer (some ⟨g, i, none⟩))) (ht : P.underlying t = some d) (hd : d.isRow = false) (hc : cs[i]? = some v) : RunV P l [(g, Obj.cells cs T fr)] o v := loadV ho hx ht hd (List.mem_singleton.2 rfl) hc
end
open Go.ChangeShapes Go.WideShapes Go.ChangeAt
section
variable {P : Program} {H : Type} {enc : TypeId × Value → H} {W : World} {r : Reach} {base base' : Nat} {spare : Nat → Bool} {held : Bool}
/-- A row that comes in, by its cells. -/
theorem rowX_param {t e k : Nat} {v : Value} {d : DataW H} {q : List MemPlace} (ht : P.underlying t = some (.slice e)) (hk : P.cellsOf e = k) (hk0 : 0 < k) (hv : Value.okWide P W r base t v) (h : DataW.Trod enc P W base' spare held t v d q) :
    ∃ (p : Option Addr) (n c : Nat), v = .slice p n c ∧ (n = 0 ∨ ∃ (b off : Nat) (cs : Array Value) (T : TypeId) (fr : Nat × Nat), p = some ⟨b, off, none⟩ ∧ W.heap[b]? = some (.cells cs T fr) ∧ ∀ j, j < n → ∃ (X : List Value) (x : DataW H × List MemPlace) (fuel : Nat), X.length = k ∧ (∀ i, i < k → cs[off + (j * k + i)]? = X[i]?) ∧ DataW.trod enc P W base' spare held fuel e X = some x) := by
  obtain ⟨p, n, c, rfl⟩ := okWide_slice ht hv
  obtain ⟨fuel, hf⟩ := h
  rcases DataW.trod_slice ht hf with ⟨e, _⟩ | ⟨a, len, cap, elems, rest, m, _, e, _, hb, hl, hm, hlen, hel, _, _⟩
  · have e' : Value.slice p n c = .slice none 0 0 := by simpa [Value.cells] using e
    cases e'
    exact ⟨none, 0, 0, rfl, .inl rfl⟩
  · have e' : Value.slice p n c = .slice (some a) len cap := by simpa [Value.cells] using e
    cases e'
    refine ⟨_, n, c, rfl, ?_⟩
    rcases Nat.eq_zero_or_pos n with rfl | hn
    · exact .inl rfl
    · right
      rw [hk] at hel
      have key : ∀ j, j < n → ∃ (X : List Value) (x : DataW H × List MemPlace), X.length = k ∧ (∀ i, i < k → W.cell? ((a.add (j * k)).add i) = X[i]?) ∧ DataW.trod enc P W base' spare held m _ X = some x := fun j hj => by
        have h1 := hel j hj
        rw [List.getElem?_eq_getElem (by omega)] at h1
        obtain ⟨X, hL1, hL2⟩ := Option.bind_eq_some_iff.1 h1
        obtain ⟨_, h3, hc⟩ := World.cells?_some hL1
        exact ⟨X, _, h3, fun i hi => hc i hi, hL2⟩
      obtain ⟨X0, x0, hX0, hk0', _⟩ := key 0 hn
      have h0 := hk0' 0 hk0
      rw [show (a.add (0 * k)).add 0 = a by simp [Addr.add], List.getElem?_eq_getElem (by omega)] at h0
      have hsp : a.spot = none ∧ ∃ cs T9 fr, W.heap[a.block]? = some (.cells cs T9 fr) := by
        unfold World.cell? at h0
        split at h0
        · rename_i cs T9 fr hblk
          split at h0
          · cases h0
          · rename_i hs
            exact ⟨by cases hq : a.spot with | none => rfl | some x => (rw [hq] at hs; simp at hs), cs, T9, fr, hblk⟩
        · cases h0
      obtain ⟨hs, cs, T9, fr, hblk⟩ := hsp
      obtain ⟨ab, ao, asp⟩ := a
      simp only at hs hblk
      subst hs
      refine ⟨ab, ao, cs, T9, fr, rfl, hblk, fun j hj => ?_⟩
      obtain ⟨X, x, q1, q2, q3⟩ := key j hj
      refine ⟨X, x, m, q1, fun i hi => ?_, q3⟩
      have := q2 i hi
      rw [add_off, add_off, cell_of hblk, Nat.add_assoc] at this
      exact this
end
end Go.Proofs.YtdeiodcfblldgaaDoor
