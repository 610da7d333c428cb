/- Several texts in one: Package table: draws. From a walk to a row: a law that returns true and writes nothing that was there; arrays of bytes that come in. Rows that came in and lie anywhere: elements of one or more cells, only read. A region that draws its order, where new cells are among what is made: the cells are apart. The laws of the table: what they share. The law TableNone. The table of the powers of ten, as the text lays it. Package-level tables of numbers: what the row says that they hold, as a block. -/
import Derived.Test.YtlljedijldkcbaaDoorZ6
import Derived.Test.YtlljedijldkcbaaDoorRows
import Derived.WalkKit
import Derived.Test.YtlljedijldkcbaaDoorZ1
import Derived.Below
import Derived.ProofKit
import Derived.OpenShut
import Derived.ChangeOld
import Derived.Test.YtlljedijldkcbaaDoorZ5
import Derived.OrdersHeld
import Derived.Test.YtlljedijldkcbaaDoorZ3
import Derived.MakeChecks
import Derived.LaidMore
import Derived.LaidHandle
import Derived.Stop.Joined
namespace Go.Proofs.YtlljedijldkcbaaDoor
open Go.RowKit
theorem MemS.apartO {S : Nat → Prop} {w0 w : World} {K O : Blks} {R : List Row} {g : Nat} {ob : Obj} (M : MemS S w0 w (K ++ O) R) (i : Nat) (hi : K[i]? = some (g, ob)) : ∀ x ∈ O, x.1 ≠ g := fun x hx => by
  obtain ⟨j, hj⟩ := List.mem_iff_getElem?.1 hx
  have hl : i < K.length := by
    rcases Nat.lt_or_ge i K.length with h | h
    · exact h
    · rw [List.getElem?_eq_none h] at hi; cases hi
  exact M.apart (K.length + j) i x (g, ob) (by rw [List.getElem?_append_right (Nat.le_add_right _ _), Nat.add_sub_cancel_left]; exact hj) (by rw [List.getElem?_append_left hl]; exact hi) (by omega)
/-- What is drawn under all weights together. -/
def uN (a b r m k : Nat) (X : List Nat) : Nat × Nat × Nat := undN (toN a b r m (2 * r + 1)) (bsz (toN a b r m (2 * r + 1))) k X
/-- The number that is drawn. -/
def drN (a b r m k : Nat) (X : List Nat) : Nat := if (uN a b r m k X).2.1 = 0 then aN a b r m (uN a b r m k X).1 else 0
theorem tot_small {a b r m : Nat} (hk : TOk a b r m) : toN a b r m (2 * r + 1) < 1048576 := to_small hk (by have := hk.2.2.2.1; have := hk.2.2.2.2; omega)
theorem tot_b1 {a b r m : Nat} (hk : TOk a b r m) : 1 ≤ bsz (toN a b r m (2 * r + 1)) := bsz_pos (by have := to_pos hk; omega)
theorem tot_b2 {a b r m : Nat} (hk : TOk a b r m) : bsz (toN a b r m (2 * r + 1)) ≤ 20 := bsz_le (tot_small hk)
theorem tot_q {a b r m : Nat} (hk : TOk a b r m) : qsz (toN a b r m (2 * r + 1)) < 1000000 := qok (b100 (Nat.lt_trans (tot_small hk) (by decide)))
theorem un_q {a b r m k : Nat} {X : List Nat} (hk : TOk a b r m) : qsz (undN (toN a b r m (2 * r + 1)) (bsz (toN a b r m (2 * r + 1))) k X).1 < 1000000 := qok (Nat.lt_of_lt_of_le (und_lt (bsz_ok _).1 k X) (Nat.le_trans (Nat.pow_le_pow_right (by decide) (tot_b2 hk)) (by decide +kernel)))
set_option maxRecDepth 100000 in
theorem kdraw_O (gk g : Nat) (a b r m : Nat) (hk : TOk a b r m) (X : List Nat) (u : Nat) (hX : ∀ i, X.getD i 0 < 256) (hu : u < 4611686018427000000) (k : Nat) (hk1 : 1 ≤ k) (hk2 : k ≤ 16) (O : Blks) (hK : KO O gk a b r m) (w0 : World) (H : Has w0 ((g, TB X u) :: O)) (hD : Distinct ((g, TB X u) :: O)) :
    Calls Tryd.prog 26 #[pT gk, pT g, iN k] w0 fun e w' => e = .returned (.tuple #[iN (drN a b r m k X), iN ((uN a b r m k X).2.1)]) ∧ Turn g (TB (X.drop (uN a b r m k X).2.2) (u + (uN a b r m k X).2.2)) w0 w' := by
  have ⟨k1, k2, k3, k4, k5⟩ := hk
  refine enter_fr Tryd.func26 rfl Tryd.ntmps26 (by simp) fun ac (FF : Fr 30 ac [(0, pT gk), (1, pT g), (2, iN k)]) => ?_
  have MM : MemS (fun k => k < w0.heap.size ∧ ∀ x ∈ (g, oC #[sB X, iN u] 81) :: O, x.1 ≠ k) w0 w0 ((g, oC #[sB X, iN u] 81) :: O) [] := MemS.startN H hD
  refine wp_seq (rg_seq FF MM [o_, o_] [0, 1, 2, 6, 7] (fun Kt => Kt [(7, iN 0), (6, iN 0), (0, pT gk), (1, pT g), (2, iN k)] ((g, oC #[sB X, iN u] 81) :: O)) (by kernel_rfl) (fun _ => by kernel_rfl) (fun ac1 wd1 FF1 MM1 => then_n ?_))
  refine wp_seq (wp_region_list ?_)
  refine rg_part 2 FF1 MM1 [o_, o_] [7, 6, 0, 2, 13, 14] (fun Kt => Kt [(14, pT gk), (13, pT g), (7, iN 0), (6, iN 0), (0, pT gk), (2, iN k)] ((g, oC #[sB X, iN u] 81) :: O)) (by kernel_rfl) (fun _ => by kernel_rfl) (fun ac2 wd2 FF2 MM2 => ?_)
  refine st_callE [13, 7, 6, 0, 2, 15] FF2 (d := 15) (mk := fun v => .agg #[nv (toN a b r m (2 * r + 1)) v]) en_ktotal rfl rfl (ktotal_any gk a b r m hk _ (hK.at (Has.tl MM2.hasL))) rfl (by kernel_rfl) (by decide) fun ac4 wd4 lv3 (FF4 : Fr 30 ac4 [(15, aG #[nv (toN a b r m (2 * r + 1)) lv3]), (13, pT g), (7, iN 0), (6, iN 0), (0, pT gk), (2, iN k)]) hr5 => ?_
  have hfr6 : ∀ g, (nv (toN a b r m (2 * r + 1)) lv3).ownBlock = some g → w0.heap.size ≤ g := fun g hg => Nat.le_trans MM2.size (hr5.2.2 g hg)
  obtain ⟨O7, MM80, hN9, hs10⟩ := MemS.addNats (K := [(g, oC #[sB X, iN u] 81)]) (O := O) MM2 hr5.1 hr5.2 (Nats.nil O)
  have MM8 : MemS (fun k => k < w0.heap.size ∧ ∀ x ∈ (g, oC #[sB X, iN u] 81) :: O, x.1 ≠ k) w0 wd4 ((g, oC #[sB X, iN u] 81) :: O7) [] := MM80
  have hK_11 := hK.mono hs10
  refine rg_part 1 FF4 MM8 [o_] [15, 13, 7, 6, 0, 16] (fun Kt => Kt [(16, iN k), (15, aG #[nv (toN a b r m (2 * r + 1)) lv3]), (13, pT g), (7, iN 0), (6, iN 0), (0, pT gk)] ((g, oC #[sB X, iN u] 81) :: O7)) (by kernel_rfl) (fun _ => by kernel_rfl) (fun ac12 wd12 FF12 MM12 => ?_)
  refine st_callE [7, 6, 0, 17] FF12 (d := 17) (mk := fun v => .tuple #[.agg #[nv ((undN (toN a b r m (2 * r + 1)) (bsz (toN a b r m (2 * r + 1))) k X).1) v], iN ((undN (toN a b r m (2 * r + 1)) (bsz (toN a b r m (2 * r + 1))) k X).2.1)]) en_tunder rfl rfl (by have h0 := tunder_any g X u hX (by omega) (toN a b r m (2 * r + 1)) lv3 k (tot_b1 hk) (Nat.le_trans (tot_b2 hk) (by decide)) hk1 hk2 wd12 (MM12.get 0 rfl) ((hN9.get 0 rfl).at (Has.tl MM12.hasL)) (natO_ne (hN9.get 0 rfl) (MemS.apartO (K := [(g, oC #[sB X, iN u] 81)]) MM12 0 rfl)); exact h0) rfl (by kernel_rfl) (by decide) fun ac14 wd14 lv13 (FF14 : Fr 30 ac14 [(17, .tuple #[aG #[nv ((undN (toN a b r m (2 * r + 1)) (bsz (toN a b r m (2 * r + 1))) k X).1) lv13], iN ((undN (toN a b r m (2 * r + 1)) (bsz (toN a b r m (2 * r + 1))) k X).2.1)]), (7, iN 0), (6, iN 0), (0, pT gk)]) hr15 => ?_
  obtain ⟨ht9, hn9⟩ := hr15
  have MM16 : MemS (fun k => k < w0.heap.size ∧ ∀ x ∈ (g, oC #[sB X, iN u] 81) :: O, x.1 ≠ k) w0 wd14 ((g, oC #[sB (X.drop (undN (toN a b r m (2 * r + 1)) (bsz (toN a b r m (2 * r + 1))) k X).2.2), iN (u + (undN (toN a b r m (2 * r + 1)) (bsz (toN a b r m (2 * r + 1))) k X).2.2)] 81) :: O7) [] := MM12.turnAt ht9 0 rfl
  obtain ⟨O17, MM180, hN19, hs20⟩ := MemS.addNatsT (K := [(g, oC #[sB (X.drop (undN (toN a b r m (2 * r + 1)) (bsz (toN a b r m (2 * r + 1))) k X).2.2), iN (u + (undN (toN a b r m (2 * r + 1)) (bsz (toN a b r m (2 * r + 1))) k X).2.2)] 81)]) (O := O7) MM12 MM16 rfl hn9 hN9
  have MM18 : MemS (fun k => k < w0.heap.size ∧ ∀ x ∈ (g, oC #[sB X, iN u] 81) :: O, x.1 ≠ k) w0 wd14 ((g, oC #[sB (X.drop (undN (toN a b r m (2 * r + 1)) (bsz (toN a b r m (2 * r + 1))) k X).2.2), iN (u + (undN (toN a b r m (2 * r + 1)) (bsz (toN a b r m (2 * r + 1))) k X).2.2)] 81) :: O17) [] := MM180
  have hK_21 := hK_11.mono hs20
  have hz22 : ∀ x ∈ O, x ∈ O17 := fun x hx => hs20 x (hs10 x hx)
  refine rg_part 6 FF14 MM18 [o_, o_, o_, o_, b_ 0, o_] [7, 6, 0, 8, 9] (fun Kt => ∀ bw, bw = bw ∧ (#[.slice none 0 0] : Array Value).size = 1 ∧ (#[nv ((undN (toN a b r m (2 * r + 1)) (bsz (toN a b r m (2 * r + 1))) k X).1) lv13] : Array Value).size = 1 ∧ (#[nv ((undN (toN a b r m (2 * r + 1)) (bsz (toN a b r m (2 * r + 1))) k X).1) lv13] : Array Value).all (·.oneCell') = true ∧ (0, 0).2 = 0 ∧ Kt [(9, iN ((undN (toN a b r m (2 * r + 1)) (bsz (toN a b r m (2 * r + 1))) k X).2.1)), (8, pT bw), (7, iN 0), (6, iN 0), (0, pT gk)] ((bw, oC #[nv ((undN (toN a b r m (2 * r + 1)) (bsz (toN a b r m (2 * r + 1))) k X).1) lv13] 37) :: (g, oC #[sB (X.drop (undN (toN a b r m (2 * r + 1)) (bsz (toN a b r m (2 * r + 1))) k X).2.2), iN (u + (undN (toN a b r m (2 * r + 1)) (bsz (toN a b r m (2 * r + 1))) k X).2.2)] 81) :: O17)) (by kernel_rfl) (fun _ => by kernel_rfl) (fun bw => ⟨rfl, rfl, rfl, (by kernel_rfl), rfl, fun ac23 wd23 FF23 MM23 => ?_⟩)
  refine wpl_nil (then_n ?_)
  refine wp_seq ?_
  refine wp_seq (rg_seq FF23 MM23 [o_, o_] [9, 8, 7, 6, 0, 21] (fun Kt => Kt [(21, .bool (decide (((undN (toN a b r m (2 * r + 1)) (bsz (toN a b r m (2 * r + 1))) k X).2.1) ≠ 0))), (9, iN ((undN (toN a b r m (2 * r + 1)) (bsz (toN a b r m (2 * r + 1))) k X).2.1)), (8, pT bw), (7, iN 0), (6, iN 0), (0, pT gk)] ((bw, oC #[nv ((undN (toN a b r m (2 * r + 1)) (bsz (toN a b r m (2 * r + 1))) k X).1) lv13] 37) :: (g, oC #[sB (X.drop (undN (toN a b r m (2 * r + 1)) (bsz (toN a b r m (2 * r + 1))) k X).2.2), iN (u + (undN (toN a b r m (2 * r + 1)) (bsz (toN a b r m (2 * r + 1))) k X).2.2)] 81) :: O17)) (by kernel_rfl) (fun _ => by kernel_rfl) (fun ac24 wd24 FF24 MM24 => then_n ?_))
  by_cases hs21 : ((undN (toN a b r m (2 * r + 1)) (bsz (toN a b r m (2 * r + 1))) k X).2.1) ≠ 0
  · refine wp_cond_true ((FF24.ev 0 rfl).trans (dec_t hs21)) ?_
    refine wp_seq (rg_seq FF24 MM24 [o_, o_, o_] [9, 8, 7, 6, 0] (fun Kt => Kt [(7, iN ((undN (toN a b r m (2 * r + 1)) (bsz (toN a b r m (2 * r + 1))) k X).2.1)), (6, iN 0), (9, iN ((undN (toN a b r m (2 * r + 1)) (bsz (toN a b r m (2 * r + 1))) k X).2.1)), (8, pT bw), (0, pT gk)] ((bw, oC #[nv ((undN (toN a b r m (2 * r + 1)) (bsz (toN a b r m (2 * r + 1))) k X).1) lv13] 37) :: (g, oC #[sB (X.drop (undN (toN a b r m (2 * r + 1)) (bsz (toN a b r m (2 * r + 1))) k X).2.2), iN (u + (undN (toN a b r m (2 * r + 1)) (bsz (toN a b r m (2 * r + 1))) k X).2.2)] 81) :: O17)) (by kernel_rfl) (fun _ => by kernel_rfl) (fun ac25 wd25 FF25 MM25 => then_n ?_))
    refine wp_ret ?_
    repeat first | refine then_ret ?_ | refine inb_ret ?_
    exact (ret_tup2 FF25 1 0 Tryd.results26 rfl rfl (by rw [drN, uN, if_neg hs21]; exact ⟨rfl, MM25.turn (Has.tl H) 1 rfl (fun _ hx => List.mem_cons_of_mem _ (List.mem_cons_of_mem _ (hz22 _ hx)))⟩))
  · refine wp_cond_false ((FF24.ev 0 rfl).trans (dec_f hs21)) ?_
    refine wp_skip ?_
    refine then_n ?_
    refine wp_seq (rg_seq FF24 MM24 [o_, b_ 0, u_ 1 (.tuple #[iN (aN a b r m ((undN (toN a b r m (2 * r + 1)) (bsz (toN a b r m (2 * r + 1))) k X).1)), .bool (decide ((undN (toN a b r m (2 * r + 1)) (bsz (toN a b r m (2 * r + 1))) k X).1 < toN a b r m (2 * r + 1)))]), o_, o_, o_, o_, o_] [9, 8, 7, 6, 0, 10] (fun Kt => bw = bw ∧ (#[nv ((undN (toN a b r m (2 * r + 1)) (bsz (toN a b r m (2 * r + 1))) k X).1) lv13] : Array Value).size = 1 ∧ CallP Tryd.prog 21 [pT gk, aG #[nv ((undN (toN a b r m (2 * r + 1)) (bsz (toN a b r m (2 * r + 1))) k X).1) lv13]] ((bw, oC #[nv ((undN (toN a b r m (2 * r + 1)) (bsz (toN a b r m (2 * r + 1))) k X).1) lv13] 37) :: (g, oC #[sB (X.drop (undN (toN a b r m (2 * r + 1)) (bsz (toN a b r m (2 * r + 1))) k X).2.2), iN (u + (undN (toN a b r m (2 * r + 1)) (bsz (toN a b r m (2 * r + 1))) k X).2.2)] 81) :: O17) (.tuple #[iN (aN a b r m ((undN (toN a b r m (2 * r + 1)) (bsz (toN a b r m (2 * r + 1))) k X).1)), .bool (decide ((undN (toN a b r m (2 * r + 1)) (bsz (toN a b r m (2 * r + 1))) k X).1 < toN a b r m (2 * r + 1)))]) ∧ Kt [(10, iN (aN a b r m ((undN (toN a b r m (2 * r + 1)) (bsz (toN a b r m (2 * r + 1))) k X).1))), (9, iN ((undN (toN a b r m (2 * r + 1)) (bsz (toN a b r m (2 * r + 1))) k X).2.1)), (8, pT bw), (7, iN 0), (6, iN 0), (0, pT gk)] ((bw, oC #[nv ((undN (toN a b r m (2 * r + 1)) (bsz (toN a b r m (2 * r + 1))) k X).1) lv13] 37) :: (g, oC #[sB (X.drop (undN (toN a b r m (2 * r + 1)) (bsz (toN a b r m (2 * r + 1))) k X).2.2), iN (u + (undN (toN a b r m (2 * r + 1)) (bsz (toN a b r m (2 * r + 1))) k X).2.2)] 81) :: O17)) (by kernel_rfl) (fun _ => by kernel_rfl) (⟨rfl, rfl, ⟨en_kat, fun w Hw => kat_any gk a b r m hk ((undN (toN a b r m (2 * r + 1)) (bsz (toN a b r m (2 * r + 1))) k X).1) lv13 (un_q hk) w (hK_21.at (Has.tl (Has.tl Hw))) ((hN19.get 0 rfl).at (Has.tl (Has.tl Hw)))⟩, fun ac26 wd26 FF26 MM26 => then_n ?_⟩))
    refine wp_seq (rg_seq FF26 MM26 [o_, o_, o_] [9, 8, 7, 6, 0] (fun Kt => Kt [(7, iN 0), (6, iN (aN a b r m ((undN (toN a b r m (2 * r + 1)) (bsz (toN a b r m (2 * r + 1))) k X).1))), (9, iN ((undN (toN a b r m (2 * r + 1)) (bsz (toN a b r m (2 * r + 1))) k X).2.1)), (8, pT bw), (0, pT gk)] ((bw, oC #[nv ((undN (toN a b r m (2 * r + 1)) (bsz (toN a b r m (2 * r + 1))) k X).1) lv13] 37) :: (g, oC #[sB (X.drop (undN (toN a b r m (2 * r + 1)) (bsz (toN a b r m (2 * r + 1))) k X).2.2), iN (u + (undN (toN a b r m (2 * r + 1)) (bsz (toN a b r m (2 * r + 1))) k X).2.2)] 81) :: O17)) (by kernel_rfl) (fun _ => by kernel_rfl) (fun ac27 wd27 FF27 MM27 => then_n ?_))
    refine wp_ret ?_
    repeat first | refine then_ret ?_ | refine inb_ret ?_
    exact (ret_tup2 FF27 1 0 Tryd.results26 rfl rfl (by have hE : (undN (toN a b r m (2 * r + 1)) (bsz (toN a b r m (2 * r + 1))) k X).2.1 = 0 := Decidable.of_not_not hs21; rw [drN, uN, if_pos hE]; exact ⟨by rw [hE], MM27.turn (Has.tl H) 1 rfl (fun _ hx => List.mem_cons_of_mem _ (List.mem_cons_of_mem _ (hz22 _ hx)))⟩))
theorem kdraw_any (gk g : Nat) (a b r m : Nat) (hk : TOk a b r m) (X : List Nat) (u : Nat) (hX : ∀ i, X.getD i 0 < 256) (hu : u < 4611686018427000000) (k : Nat) (hk1 : 1 ≤ k) (hk2 : k ≤ 16) (w0 : World) (hgk : w0.heap[gk]? = some (KB a b r m)) (hg : w0.heap[g]? = some (TB X u)) :
    Calls Tryd.prog 26 #[pT gk, pT g, iN k] w0 fun e w' => e = .returned (.tuple #[iN (drN a b r m k X), iN ((uN a b r m k X).2.1)]) ∧ Turn g (TB (X.drop (uN a b r m k X).2.2) (u + (uN a b r m k X).2.2)) w0 w' := by
  have hne : gk ≠ g := fun e => by subst e; rw [hg] at hgk; simp at hgk
  refine kdraw_O gk g a b r m hk X u hX hu k hk1 hk2 [(gk, KB a b r m)] (by simp [KO]) w0 (fun i x hx => ?_) ⟨fun y hy => ?_, fun y hy => (nomatch hy), trivial⟩
  · match i with
    | 0 => simp at hx; subst hx; exact hg
    | 1 => simp at hx; subst hx; exact hgk
    | i + 2 => simp at hx
  · simp at hy; subst hy; exact fun e => hne (by first | exact e | exact e.symm)
set_option maxRecDepth 100000 in
theorem kdraw_pnilO (O : Blks) (hD : Distinct O) (gk : Nat) (a b r m : Nat) (hk : TOk a b r m) (t : Int) (hK : KO O gk a b r m) (w0 : World) (H : Has w0 O) :
    Calls Tryd.prog 26 #[pT gk, .pointer none, .int .i64 t] w0 fun e w' => e = .returned (.tuple #[iN 0, iN 1]) ∧ Below w0.heap.size w0 w' := by
  refine enter_fr Tryd.func26 rfl Tryd.ntmps26 (by simp) fun ac (FF : Fr 30 ac [(0, pT gk), (1, .pointer none), (2, .int .i64 (t : Int))]) => ?_
  have MM : MemS (fun k => k < w0.heap.size ∧ ∀ x ∈ O, x.1 ≠ k) w0 w0 O [] := MemS.startN H hD
  refine wp_seq (rg_seq FF MM [o_, o_] [0, 1, 2, 6, 7] (fun Kt => Kt [(7, iN 0), (6, iN 0), (0, pT gk), (1, .pointer none), (2, .int .i64 (t : Int))] O) (by kernel_rfl) (fun _ => by kernel_rfl) (fun ac1 wd1 FF1 MM1 => then_n ?_))
  refine wp_seq (wp_region_list ?_)
  refine rg_part 2 FF1 MM1 [o_, o_] [7, 6, 0, 2, 13, 14] (fun Kt => Kt [(14, pT gk), (13, .pointer none), (7, iN 0), (6, iN 0), (0, pT gk), (2, .int .i64 (t : Int))] O) (by kernel_rfl) (fun _ => by kernel_rfl) (fun ac2 wd2 FF2 MM2 => ?_)
  refine st_callE [13, 7, 6, 0, 2, 15] FF2 (d := 15) (mk := fun v => .agg #[nv (toN a b r m (2 * r + 1)) v]) en_ktotal rfl rfl (ktotal_any gk a b r m hk _ (hK.at MM2.hasL)) rfl (by kernel_rfl) (by decide) fun ac4 wd4 lv3 (FF4 : Fr 30 ac4 [(15, aG #[nv (toN a b r m (2 * r + 1)) lv3]), (13, .pointer none), (7, iN 0), (6, iN 0), (0, pT gk), (2, .int .i64 (t : Int))]) hr5 => ?_
  have hfr6 : ∀ g, (nv (toN a b r m (2 * r + 1)) lv3).ownBlock = some g → w0.heap.size ≤ g := fun g hg => Nat.le_trans MM2.size (hr5.2.2 g hg)
  obtain ⟨O7, MM80, hN9, hs10⟩ := MemS.addNats (K := []) (O := O) MM2 hr5.1 hr5.2 (Nats.nil O)
  have MM8 : MemS (fun k => k < w0.heap.size ∧ ∀ x ∈ O, x.1 ≠ k) w0 wd4 O7 [] := MM80
  have hK_11 := hK.mono hs10
  refine rg_part 8 FF4 MM8 [o_, u_ 1 (.tuple #[aG #[.slice none 0 0], iN 1]), o_, o_, o_, o_, b_ 0, o_] [7, 6, 0, 8, 9] (fun Kt => CallP Tryd.prog 47 [.pointer none, aG #[nv (toN a b r m (2 * r + 1)) lv3], .int .i64 (t : Int)] O7 (.tuple #[aG #[.slice none 0 0], iN 1]) ∧ ∀ bw, bw = bw ∧ (#[.slice none 0 0] : Array Value).size = 1 ∧ (#[.slice none 0 0] : Array Value).size = 1 ∧ (#[.slice none 0 0] : Array Value).all (·.oneCell') = true ∧ (0, 0).2 = 0 ∧ Kt [(9, iN 1), (8, pT bw), (7, iN 0), (6, iN 0), (0, pT gk)] ((bw, oC #[.slice none 0 0] 37) :: O7)) (by kernel_rfl) (fun _ => by kernel_rfl) (⟨⟨en_tunder, fun w Hw => tunder_nil (toN a b r m (2 * r + 1)) lv3 (tot_q hk) t w ((hN9.get 0 rfl).at Hw)⟩, fun bw => ⟨rfl, rfl, rfl, (by kernel_rfl), rfl, fun ac12 wd12 FF12 MM12 => ?_⟩⟩)
  refine wpl_nil (then_n ?_)
  refine wp_seq ?_
  refine wp_seq (rg_seq FF12 MM12 [o_, w_ 2] [9, 8, 7, 6, 0, 21] (fun Kt => 1 ≠ 0 ∧ Kt [(21, .bool true), (9, iN 1), (8, pT bw), (7, iN 0), (6, iN 0), (0, pT gk)] ((bw, oC #[.slice none 0 0] 37) :: O7)) (by kernel_rfl) (fun _ => by kernel_rfl) (⟨(by decide), fun ac13 wd13 FF13 MM13 => then_n ?_⟩))
  refine wp_cond_true (FF13.ev 0 rfl) ?_
  refine wp_seq (rg_seq FF13 MM13 [o_, o_, o_] [9, 8, 7, 6, 0] (fun Kt => Kt [(7, iN 1), (6, iN 0), (9, iN 1), (8, pT bw), (0, pT gk)] ((bw, oC #[.slice none 0 0] 37) :: O7)) (by kernel_rfl) (fun _ => by kernel_rfl) (fun ac14 wd14 FF14 MM14 => then_n ?_))
  refine wp_ret ?_
  repeat first | refine then_ret ?_ | refine inb_ret ?_
  exact (ret_tup2 FF14 1 0 Tryd.results26 rfl rfl ⟨rfl, MM14.belowN H (fun _ hx => List.mem_cons_of_mem _ (hs10 _ hx))⟩)
theorem kdraw_pnil (gk : Nat) (a b r m : Nat) (hk : TOk a b r m) (t : Int) (w : World) (hgk : w.heap[gk]? = some (KB a b r m)) : Calls Tryd.prog 26 #[pT gk, .pointer none, .int .i64 t] w fun e w' => e = .returned (.tuple #[iN 0, iN 1]) ∧ Below w.heap.size w w' := by
  obtain ⟨O, h1, h2, h3⟩ := kone_O hgk
  exact kdraw_pnilO O h2 gk a b r m hk t h3 w h1
set_option maxRecDepth 100000 in
theorem kdraw_knilO (O : Blks) (hD : Distinct O) (g : Nat) (t : Int) (w0 : World) (H : Has w0 O) :
    Calls Tryd.prog 26 #[.pointer none, pT g, .int .i64 t] w0 fun e w' => e = .returned (.tuple #[iN 0, iN 1]) ∧ Below w0.heap.size w0 w' := by
  refine enter_fr Tryd.func26 rfl Tryd.ntmps26 (by simp) fun ac (FF : Fr 30 ac [(0, .pointer none), (1, pT g), (2, .int .i64 (t : Int))]) => ?_
  have MM : MemS (fun k => k < w0.heap.size ∧ ∀ x ∈ O, x.1 ≠ k) w0 w0 O [] := MemS.startN H hD
  refine wp_seq (rg_seq FF MM [o_, o_] [0, 1, 2, 6, 7] (fun Kt => Kt [(7, iN 0), (6, iN 0), (0, .pointer none), (1, pT g), (2, .int .i64 (t : Int))] O) (by kernel_rfl) (fun _ => by kernel_rfl) (fun ac1 wd1 FF1 MM1 => then_n ?_))
  refine wp_seq (rg_seq FF1 MM1 [o_, o_, t_ (aG #[.slice none 0 0]), o_, t_ (.tuple #[aG #[.slice none 0 0], iN 1]), o_, o_, o_, o_, b_ 0, o_] [7, 6, 0, 8, 9] (fun Kt => CallP Tryd.prog 16 [.pointer none] [] (aG #[.slice none 0 0]) ∧ CallP Tryd.prog 47 [pT g, aG #[.slice none 0 0], .int .i64 (t : Int)] [] (.tuple #[aG #[.slice none 0 0], iN 1]) ∧ ∀ bw, bw = bw ∧ (#[.slice none 0 0] : Array Value).size = 1 ∧ (#[.slice none 0 0] : Array Value).size = 1 ∧ (#[.slice none 0 0] : Array Value).all (·.oneCell') = true ∧ (0, 0).2 = 0 ∧ Kt [(9, iN 1), (8, pT bw), (7, iN 0), (6, iN 0), (0, .pointer none)] ((bw, oC #[.slice none 0 0] 37) :: O)) (by kernel_rfl) (fun _ => by kernel_rfl) (⟨(callP_of en_ktotal ktotal_nil _), (callP_of en_tunder (fun w => tunder_zero g 0 (.slice none 0 0) (by decide) t (by decide) w (natNew_nil 0 w).1) _), fun bw => ⟨rfl, rfl, rfl, (by kernel_rfl), rfl, fun ac2 wd2 FF2 MM2 => then_n ?_⟩⟩))
  refine wp_seq ?_
  refine wp_seq (rg_seq FF2 MM2 [o_, w_ 2] [9, 8, 7, 6, 0, 21] (fun Kt => 1 ≠ 0 ∧ Kt [(21, .bool true), (9, iN 1), (8, pT bw), (7, iN 0), (6, iN 0), (0, .pointer none)] ((bw, oC #[.slice none 0 0] 37) :: O)) (by kernel_rfl) (fun _ => by kernel_rfl) (⟨(by decide), fun ac3 wd3 FF3 MM3 => then_n ?_⟩))
  refine wp_cond_true (FF3.ev 0 rfl) ?_
  refine wp_seq (rg_seq FF3 MM3 [o_, o_, o_] [9, 8, 7, 6, 0] (fun Kt => Kt [(7, iN 1), (6, iN 0), (9, iN 1), (8, pT bw), (0, .pointer none)] ((bw, oC #[.slice none 0 0] 37) :: O)) (by kernel_rfl) (fun _ => by kernel_rfl) (fun ac4 wd4 FF4 MM4 => then_n ?_))
  refine wp_ret ?_
  repeat first | refine then_ret ?_ | refine inb_ret ?_
  exact (ret_tup2 FF4 1 0 Tryd.results26 rfl rfl ⟨rfl, MM4.belowN H (fun _ hx => List.mem_cons_of_mem _ (hx))⟩)
theorem kdraw_knil (g : Nat) (t : Int) (w : World) : Calls Tryd.prog 26 #[.pointer none, pT g, .int .i64 t] w fun e w' => e = .returned (.tuple #[iN 0, iN 1]) ∧ Below w.heap.size w w' := kdraw_knilO [] trivial g t w (fun i x hx => by simp at hx)
end Go.Proofs.YtlljedijldkcbaaDoor
namespace Go.Proofs.YtlljedijldkcbaaDoor
open Go.ChangeShapes Go.WideShapes Go.ChangeAt Go.RowKit
theorem Tryd.own : ownKnob Tryd.prog.godebug = Option.none := by kernel_rfl
theorem Tryd.laidOut : laidOutB Tryd.prog = true := by kernel_rfl
section
variable {H : Type} {enc : TypeId × Value → H} {P : Program}
theorem trodAll_below (hl : laidOutB P = true) {W W' : World} (hb : Below W.heap.size W W') : ∀ (ts : List TypeId) (vs : List Value) (ds : List (DataW H)) (ps : List MemPlace), (∀ t ∈ ts, P.readableRec t = true ∧ t < P.types.size) →
    DataW.TrodAll enc P W 0 (fun _ => true) true ts vs ds ps → (∀ x ∈ ps, x.block < W.heap.size) → DataW.TrodAll enc P W' 0 (fun b => decide (b < W.heap.size)) true ts vs ds ps
  | [], [], [], _, _, h, _ => h
  | t :: ts, v :: vs, d :: ds, ps, hr, ⟨p, q, h1, h2, e⟩, hlt => by
    subst e
    obtain ⟨r1, r2⟩ := hr t (by simp)
    exact ⟨p, q, Below.trod hl r1 r2 h1 hb (fun x hx => hlt x (by simp [hx])), trodAll_below hl hb ts vs ds q (fun t ht => hr t (by simp [ht])) h2 (fun x hx => hlt x (by simp [hx])), rfl⟩
  | [], [], _ :: _, _, _, h, _ => h.elim
  | [], _ :: _, _, _, _, h, _ => by cases h
  | _ :: _, [], _, _, _, h, _ => by cases h
  | _ :: _, _ :: _, [], _, _, h, _ => h.elim
/-- What is asked behind a law's walk. -/
theorem post_true {f : Func} {s : ChangeSpec} {W W' : World} {args : Array Value} {ds : List (DataW H)} {before : List MemPlace} {T : TypeId} (hl : laidOutB P = true) (hr : ∀ t ∈ f.params.toList, P.readableRec t = true ∧ t < P.types.size) (hv : s.vars = [])
    (hW : DataW.Whole enc P f.params.toList s.vars false W args.toList ds [] before) (hres : (s.fn H (ds ++ [])).results = [.lit (.bool true)]) (hargs : (s.fn H (ds ++ [])).args = ds) (hvs : (s.fn H (ds ++ [])).vars = [])
    (hT : f.resultTypes = #[T]) (hu : P.underlying T = some .bool) (hb : Below W.heap.size W W') : s.post enc P f false true false false W args (.bool true) W' := by
  have hlt := hW.lt
  have hW' := hW
  obtain ⟨p, q, hA, hV, rfl, _, _⟩ := hW'
  refine ⟨ds, [], p ++ q, [], p, [], hW, ?_, ?_, ?_, hb.frame _, fun h => by cases h⟩
  · rw [hres, hT]
    exact trodAll_cons_mk (shut_bool hu _) rfl
  · rw [hargs]
    exact trodAll_below hl hb _ _ _ _ hr hA (fun x hx => hlt x (by simp [hx]))
  · rw [hvs, hv]
    exact rfl
end
section
variable {H : Type} {enc : TypeId × Value → H} {P : Program}
end
end Go.Proofs.YtlljedijldkcbaaDoor
namespace Go.Proofs.YtlljedijldkcbaaDoor
open Go.RowKit
section
variable {P : Program} {w w' : World} {l : Slots} {L O : Blks} {o : Oper} {m n : Nat} {V : Nat → Value} {p : Option Addr}
/-- From p on, in w, m cells that hold V. -/
def RowIn (w : World) (p : Option Addr) (m : Nat) (V : Nat → Value) : Prop :=
  m = 0 ∨ ∃ (b off : Nat) (cs : Array Value) (T : TypeId) (fr : Nat × Nat), p = some ⟨b, off, none⟩ ∧ w.heap[b]? = some (.cells cs T fr) ∧ ∀ j, j < m → cs[off + j]? = some (V j)
def RowO (O : Blks) (p : Option Addr) (m : Nat) (V : Nat → Value) : Prop :=
  m = 0 ∨ ∃ (b off : Nat) (cs : Array Value) (T : TypeId) (fr : Nat × Nat), p = some ⟨b, off, none⟩ ∧ (b, Obj.cells cs T fr) ∈ O ∧ ∀ j, j < m → cs[off + j]? = some (V j)
theorem RowO.mono {O' : Blks} (h : RowO O p m V) (hs : ∀ x ∈ O, x ∈ O') : RowO O' p m V := by
  rcases h with h | ⟨b, off, cs, T, fr, h1, h2, h3⟩
  · exact .inl h
  · exact .inr ⟨b, off, cs, T, fr, h1, hs _ h2, h3⟩
theorem RowO.at (h : RowO O p m V) (H : Has w O) : RowIn w p m V := by
  rcases h with h | ⟨b, off, cs, T, fr, h1, h2, h3⟩
  · exact .inl h
  · exact .inr ⟨b, off, cs, T, fr, h1, Has.mem H h2, h3⟩
end
section
variable {P : Program} {ops : Array Oper} {a : Act} {w0 w : World} {Q : Exit → Act → World → Prop} {n b : Nat} {ob : Obj} {l : Slots} {L : Blks} {S : Nat → Prop} {R : List Row} {o : Oper}
end
open Go.ChangeShapes Go.WideShapes Go.ChangeAt
section
variable {P : Program} {H : Type} {enc : TypeId × Value → H} {W : World} {r : Reach} {base base' : Nat} {spare : Nat → Bool} {held : Bool}
end
end Go.Proofs.YtlljedijldkcbaaDoor
namespace Go.Proofs.YtlljedijldkcbaaDoor
open Go.RowKit
section
variable {P : Program} {ops : Array Oper} {rest : List Oper} {a : Act} {w0 w w' : World} {Q : Exit → Act → World → Prop} {n : Nat} {l : Slots} {L O : Blks} {S : Nat → Prop} {R : List Row}
/-- A new cell, as a letter: its block is the letter's. -/
def cellMk (v : Value) : Value := .pointer (some ⟨gOf (pOf v), 0, none⟩)
def FsN (ops : List Oper) (specs : List Spec) (hs : List (Option Hint)) : List Nat → Prop
  | [] => True
  | i :: r => (∃ o T p, ops[i]? = some o ∧ o.op = .alloc T ∧ hs[i]? = some (some o_) ∧ specs[i]? = some (.inr (cellMk, p)) ∧ ∀ x w, p x w → gOf (pOf x) < w.heap.size) ∧ FsN ops specs hs r
theorem FsN.get {os : List Oper} {specs : List Spec} {hs : List (Option Hint)} : ∀ {fs : List Nat}, FsN os specs hs fs → ∀ i ∈ fs, ∃ o T p, os[i]? = some o ∧ o.op = .alloc T ∧ hs[i]? = some (some o_) ∧ specs[i]? = some (.inr (cellMk, p)) ∧ ∀ x w, p x w → gOf (pOf x) < w.heap.size
  | [], _, i, h => by cases h
  | j :: r, ⟨h1, h2⟩, i, h => by
    rcases List.mem_cons.1 h with rfl | h
    · exact h1
    · exact FsN.get h2 i h
/-- Cells that no number lies in. -/
def NoNat (Cs : Blks) : Prop := ∀ x ∈ Cs, ∃ cs T fr, x.2 = .cells cs T fr ∧ ∀ d, cs[0]? ≠ some (.int .u64 d)
theorem NoNat.nil : NoNat [] := fun _ hx => (nomatch hx)
theorem NoNat.cons {Cs : Blks} {g : Nat} {cs : Array Value} {T : TypeId} {fr : Nat × Nat} (h : NoNat Cs) (hc : ∀ d, cs[0]? ≠ some (.int .u64 d)) : NoNat ((g, .cells cs T fr) :: Cs) := fun x hx => by
  rcases List.mem_cons.1 hx with rfl | hx
  · exact ⟨cs, T, fr, rfl, hc⟩
  · exact h x hx
end
end Go.Proofs.YtlljedijldkcbaaDoor
namespace Go.Proofs.YtlljedijldkcbaaDoor
open Go.RowKit
set_option maxRecDepth 100000 in
theorem wakes_any (O : Blks) (hD : Distinct O) (hT : TabO O) (w0 : World) (H : Has w0 O) :
    Calls Tryd.prog 8 #[] w0 fun e w' => e = .returned (.bool true) ∧ Below w0.heap.size w0 w' := by
  refine enter_fr Tryd.func8 rfl Tryd.ntmps8 (by simp) fun ac (FF : Fr 92 ac []) => ?_
  have MM : MemS (fun k => k < w0.heap.size ∧ ∀ x ∈ O, x.1 ≠ k) w0 w0 O [] := MemS.startN H hD
  have hk21 : TOk 2 1 1 1 := by unfold TOk; decide
  refine wp_seq (rg_seq FF MM [o_] [0] (fun Kt => Kt [(0, .bool false)] O) (by kernel_rfl) (fun _ => by kernel_rfl) (fun ac1 wd1 FF1 MM1 => then_n ?_))
  refine wp_seq (wp_region_list ?_)
  refine st_callE [0, 12] FF1 (d := 12) (mk := fun v => .tuple #[v, iN 0]) en_knew rfl rfl (knew_yes 2 1 1 1 hk21 _) rfl (by kernel_rfl) (by decide) fun ac3 wd3 lv2 (FF3 : Fr 92 ac3 [(12, .tuple #[lv2, iN 0]), (0, .bool false)]) hr4 => ?_
  obtain ⟨gk, rfl, hB_gk, hf_gk, hb_gk⟩ := hr4
  have MM5 := MM1.keep hB_gk
  have MM6 : MemS (fun k => k < w0.heap.size ∧ ∀ x ∈ O, x.1 ≠ k) w0 wd3 ((gk, oC #[iN 2, iN 1, iN 1, iN 1] 73) :: O) [] := MM1.addFresh MM5 hb_gk hf_gk
  refine rg_part 5 FF3 MM6 [o_, o_, o_, o_, o_] [0, 1, 2] (fun Kt => Kt [(2, iN 0), (1, pT gk), (0, .bool false)] ((gk, oC #[iN 2, iN 1, iN 1, iN 1] 73) :: O)) (by kernel_rfl) (fun _ => by kernel_rfl) (fun ac7 wd7 FF7 MM7 => ?_)
  refine wpl_nil (then_n ?_)
  refine wp_seq ?_
  refine wp_seq (rg_seq FF7 MM7 [o_, w_ 3, o_, o_, f_ (.bool false), o_] [1, 0, 20] (fun Kt => ¬ (0 ≠ 0) ∧ RunV Tryd.prog [(18, pT gk), (17, .bool false), (16, .bool false), (15, iN 0), (2, iN 0), (1, pT gk), (0, .bool false)] ((gk, oC #[iN 2, iN 1, iN 1, iN 1] 73) :: O) (opAt Tryd.f8 2 4) (.bool false) ∧ Kt [(20, .bool false), (1, pT gk), (0, .bool false)] ((gk, oC #[iN 2, iN 1, iN 1, iN 1] 73) :: O)) (by kernel_rfl) (fun _ => by kernel_rfl) (⟨(by decide), (ptrSome_ok (t := 28) (t' := 28) (x := (.tmp 18)) (y := (.const (.pointer none))) (by kernel_rfl) rfl rfl Tryd.underlying28), fun ac8 wd8 FF8 MM8 => then_n ?_⟩))
  refine wp_cond_false (FF8.ev 0 rfl) ?_
  refine wp_skip ?_
  refine then_n ?_
  refine wp_seq (wp_region_list ?_)
  refine rg_part 1 FF8 MM8 [o_] [1, 0, 22] (fun Kt => Kt [(22, pT gk), (1, pT gk), (0, .bool false)] ((gk, oC #[iN 2, iN 1, iN 1, iN 1] 73) :: O)) (by kernel_rfl) (fun _ => by kernel_rfl) (fun ac9 wd9 FF9 MM9 => ?_)
  refine st_callE [22, 1, 0, 23] FF9 (d := 23) (mk := fun v => .agg #[nv (2) v]) en_nof rfl rfl (nof_any 2 (by decide) _) rfl (by kernel_rfl) (by decide) fun ac11 wd11 lv10 (FF11 : Fr 92 ac11 [(23, aG #[nv 2 lv10]), (22, pT gk), (1, pT gk), (0, .bool false)]) hr12 => ?_
  obtain ⟨O13, MM140, hN15, hs16⟩ := MemS.addNats (K := [(gk, oC #[iN 2, iN 1, iN 1, iN 1] 73)]) (O := O) MM9 hr12.1 hr12.2 (Nats.nil O)
  have MM14 : MemS (fun k => k < w0.heap.size ∧ ∀ x ∈ O, x.1 ≠ k) w0 wd11 ((gk, oC #[iN 2, iN 1, iN 1, iN 1] 73) :: O13) [] := MM140
  have hT_17 := hT.mono hs16
  refine rg_part 6 FF11 MM14 [u_ 1 (.tuple #[iN 1, .bool true]), o_, o_, o_, o_, o_] [1, 0, 3, 4] (fun Kt => CallP Tryd.prog 21 [pT gk, aG #[nv 2 lv10]] ((gk, oC #[iN 2, iN 1, iN 1, iN 1] 73) :: O13) (.tuple #[iN 1, .bool true]) ∧ Kt [(4, .bool true), (3, iN 1), (1, pT gk), (0, .bool false)] ((gk, oC #[iN 2, iN 1, iN 1, iN 1] 73) :: O13)) (by kernel_rfl) (fun _ => by kernel_rfl) (⟨⟨en_kat, fun w Hw => (by have h0 := kat_any gk 2 1 1 1 hk21 2 lv10 (qok (by decide +kernel)) w (Hw 0 _ rfl) ((hN15.get 0 rfl).at (Has.tl Hw)); rw [show aN 2 1 1 1 2 = 1 by decide +kernel, show decide (2 < toN 2 1 1 1 (2 * 1 + 1)) = true by decide +kernel] at h0; exact h0)⟩, fun ac18 wd18 FF18 MM18 => ?_⟩)
  refine wpl_nil (then_n ?_)
  refine wp_seq (wp_region_list ?_)
  refine rg_part 1 FF18 MM18 [o_] [4, 3, 1, 0, 28] (fun Kt => Kt [(28, pT gk), (4, .bool true), (3, iN 1), (1, pT gk), (0, .bool false)] ((gk, oC #[iN 2, iN 1, iN 1, iN 1] 73) :: O13)) (by kernel_rfl) (fun _ => by kernel_rfl) (fun ac19 wd19 FF19 MM19 => ?_)
  refine st_callE [28, 4, 3, 1, 0, 29] FF19 (d := 29) (mk := fun v => .agg #[nv (4) v]) en_nof rfl rfl (nof_any 4 (by decide) _) rfl (by kernel_rfl) (by decide) fun ac21 wd21 lv20 (FF21 : Fr 92 ac21 [(29, aG #[nv 4 lv20]), (28, pT gk), (4, .bool true), (3, iN 1), (1, pT gk), (0, .bool false)]) hr22 => ?_
  obtain ⟨O23, MM240, hN25, hs26⟩ := MemS.addNats (K := [(gk, oC #[iN 2, iN 1, iN 1, iN 1] 73)]) (O := O13) MM19 hr22.1 hr22.2 hN15
  have MM24 : MemS (fun k => k < w0.heap.size ∧ ∀ x ∈ O, x.1 ≠ k) w0 wd21 ((gk, oC #[iN 2, iN 1, iN 1, iN 1] 73) :: O23) [] := MM240
  have hT_27 := hT_17.mono hs26
  have hz28 : ∀ x ∈ O, x ∈ O23 := fun x hx => hs26 x (hs16 x hx)
  refine rg_part 6 FF21 MM24 [u_ 1 (.tuple #[iN 0, .bool false]), o_, o_, o_, o_, o_] [4, 3, 1, 0, 6] (fun Kt => CallP Tryd.prog 21 [pT gk, aG #[nv 4 lv20]] ((gk, oC #[iN 2, iN 1, iN 1, iN 1] 73) :: O23) (.tuple #[iN 0, .bool false]) ∧ Kt [(6, .bool false), (4, .bool true), (3, iN 1), (1, pT gk), (0, .bool false)] ((gk, oC #[iN 2, iN 1, iN 1, iN 1] 73) :: O23)) (by kernel_rfl) (fun _ => by kernel_rfl) (⟨⟨en_kat, fun w Hw => (by have h0 := kat_any gk 2 1 1 1 hk21 4 lv20 (qok (by decide +kernel)) w (Hw 0 _ rfl) ((hN25.get 0 rfl).at (Has.tl Hw)); rw [show aN 2 1 1 1 4 = 0 by decide +kernel, show decide (4 < toN 2 1 1 1 (2 * 1 + 1)) = false by decide +kernel] at h0; exact h0)⟩, fun ac29 wd29 FF29 MM29 => ?_⟩)
  refine wpl_nil (then_n ?_)
  refine wp_seq (wp_region_list ?_)
  refine rg_part 1 FF29 MM29 [o_] [6, 4, 3, 1, 0, 34] (fun Kt => Kt [(34, pT gk), (6, .bool false), (4, .bool true), (3, iN 1), (1, pT gk), (0, .bool false)] ((gk, oC #[iN 2, iN 1, iN 1, iN 1] 73) :: O23)) (by kernel_rfl) (fun _ => by kernel_rfl) (fun ac30 wd30 FF30 MM30 => ?_)
  refine st_callE [34, 6, 4, 3, 1, 0, 35] FF30 (d := 35) (mk := fun v => v) en_tnew rfl rfl (tnew_any [3] _) rfl (by kernel_rfl) (by decide) fun ac32 wd32 lv31 (FF32 : Fr 92 ac32 [(35, lv31), (34, pT gk), (6, .bool false), (4, .bool true), (3, iN 1), (1, pT gk), (0, .bool false)]) hr33 => ?_
  obtain ⟨gt, rfl, hB_gt, hf_gt, hb_gt⟩ := hr33
  have MM34 := MM30.keep hB_gt
  have MM35 : MemS (fun k => k < w0.heap.size ∧ ∀ x ∈ O, x.1 ≠ k) w0 wd32 ((gt, oC #[sB [3], iN 0] 81) :: (gk, oC #[iN 2, iN 1, iN 1, iN 1] 73) :: O23) [] := MM30.addFresh MM34 hb_gt hf_gt
  refine st_callE [6, 4, 3, 1, 0, 36] FF32 (d := 36) (mk := fun _ => .tuple #[iN 2, iN 0]) (R' := fun _ w9 => Turn gt (TB ([]) (1)) wd32 w9) en_kdraw rfl rfl (by have h0 := kdraw_any gk gt 2 1 1 1 hk21 [3] 0 (lit_lt (by kernel_rfl)) (by decide) 1 (by decide) (by decide) wd32 (MM35.get 1 rfl) (MM35.get 0 rfl); rw [show drN 2 1 1 1 1 [3] = 2 by decide +kernel, show uN 2 1 1 1 1 [3] = (3, 0, 1) by decide +kernel] at h0; exact h0.mono fun _ _ ⟨h1, h2⟩ => ⟨undef, h1, h2⟩) rfl (by kernel_rfl) (by decide) fun ac37 wd37 lv36 (FF37 : Fr 92 ac37 [(36, .tuple #[iN 2, iN 0]), (6, .bool false), (4, .bool true), (3, iN 1), (1, pT gk), (0, .bool false)]) hr38 => ?_
  have MM39 : MemS (fun k => k < w0.heap.size ∧ ∀ x ∈ O, x.1 ≠ k) w0 wd37 ((gt, oC #[sB [], iN 1] 81) :: (gk, oC #[iN 2, iN 1, iN 1, iN 1] 73) :: O23) [] := MM35.turnAt hr38 0 rfl
  refine rg_part 5 FF37 MM39 [o_, o_, o_, o_, o_] [6, 4, 3, 1, 0, 7, 8] (fun Kt => Kt [(8, iN 0), (7, iN 2), (6, .bool false), (4, .bool true), (3, iN 1), (1, pT gk), (0, .bool false)] ((gt, oC #[sB [], iN 1] 81) :: (gk, oC #[iN 2, iN 1, iN 1, iN 1] 73) :: O23)) (by kernel_rfl) (fun _ => by kernel_rfl) (fun ac40 wd40 FF40 MM40 => ?_)
  refine wpl_nil (then_n ?_)
  refine wp_seq (rg_seq FF40 MM40 [t_ (.tuple #[.pointer none, iN 1]), o_, o_, o_, o_, o_] [8, 7, 6, 4, 3, 1, 0, 10] (fun Kt => CallP Tryd.prog 36 [iN 1, iN 1, iN 1, iN 1] [] (.tuple #[.pointer none, iN 1]) ∧ Kt [(10, iN 1), (8, iN 0), (7, iN 2), (6, .bool false), (4, .bool true), (3, iN 1), (1, pT gk), (0, .bool false)] ((gt, oC #[sB [], iN 1] 81) :: (gk, oC #[iN 2, iN 1, iN 1, iN 1] 73) :: O23)) (by kernel_rfl) (fun _ => by kernel_rfl) (⟨(callP_of en_knew (knew_no ((1 : Nat) : Int) ((1 : Nat) : Int) ((1 : Nat) : Int) ((1 : Nat) : Int) (by unfold TOz; decide) (by omega) (by omega) (by omega) (by omega) (by omega) (by omega) (by omega) (by omega)) _), fun ac41 wd41 FF41 MM41 => then_n ?_⟩))
  refine wp_seq (wp_region_list ?_)
  refine rg_part 10 FF41 MM41 [o_, u_ 1 (iN 0), w_ 2, o_, o_, u_ 1 (iN 2), w_ 2, o_, o_, o_] [10, 8, 7, 6, 4, 3, 1, 0, 51, 52] (fun Kt => CallP Tryd.prog 11 [pT gk] ((gt, oC #[sB [], iN 1] 81) :: (gk, oC #[iN 2, iN 1, iN 1, iN 1] 73) :: O23) (iN 0) ∧ 0 = 0 ∧ CallP Tryd.prog 13 [pT gk] ((gt, oC #[sB [], iN 1] 81) :: (gk, oC #[iN 2, iN 1, iN 1, iN 1] 73) :: O23) (iN 2) ∧ 2 = 2 ∧ Kt [(52, pT gk), (51, .bool true), (10, iN 1), (8, iN 0), (7, iN 2), (6, .bool false), (4, .bool true), (3, iN 1), (1, pT gk), (0, .bool false)] ((gt, oC #[sB [], iN 1] 81) :: (gk, oC #[iN 2, iN 1, iN 1, iN 1] 73) :: O23)) (by kernel_rfl) (fun _ => by kernel_rfl) (⟨⟨en_kleast, fun w Hw => kleast_any gk 2 1 1 1 hk21 w (Hw 1 _ rfl)⟩, (by decide), ⟨en_kmost, fun w Hw => kmost_any gk 2 1 1 1 hk21 w (Hw 1 _ rfl)⟩, (by decide), fun ac42 wd42 FF42 MM42 => ?_⟩)
  refine st_callE [51, 10, 8, 7, 6, 4, 3, 1, 0, 53] FF42 (d := 53) (mk := fun v => .agg #[nv (2) v]) en_kweight rfl rfl (by have h0 := (kweight_any gk 2 1 1 1 hk21 ((1 : Nat) : Int) (by omega) (by omega) _ (MM42.get 1 rfl)); rw [show wgZ 2 1 1 1 ((1 : Nat) : Int) = 2 by decide +kernel] at h0; exact h0) rfl (by kernel_rfl) (by decide) fun ac44 wd44 lv43 (FF44 : Fr 92 ac44 [(53, aG #[nv 2 lv43]), (51, .bool true), (10, iN 1), (8, iN 0), (7, iN 2), (6, .bool false), (4, .bool true), (3, iN 1), (1, pT gk), (0, .bool false)]) hr45 => ?_
  have hfr46 : ∀ g, (nv 2 lv43).ownBlock = some g → w0.heap.size ≤ g := fun g hg => Nat.le_trans MM42.size (hr45.2.2 g hg)
  obtain ⟨O47, MM480, hN49, hs50⟩ := MemS.addNats (K := [(gt, oC #[sB [], iN 1] 81), (gk, oC #[iN 2, iN 1, iN 1, iN 1] 73)]) (O := O23) MM42 hr45.1 hr45.2 hN25
  have MM48 : MemS (fun k => k < w0.heap.size ∧ ∀ x ∈ O, x.1 ≠ k) w0 wd44 ((gt, oC #[sB [], iN 1] 81) :: (gk, oC #[iN 2, iN 1, iN 1, iN 1] 73) :: O47) [] := MM480
  have hT_51 := hT_27.mono hs50
  have hz52 : ∀ x ∈ O, x ∈ O47 := fun x hx => hs50 x (hz28 x hx)
  refine rg_part 5 FF44 MM48 [u_ 1 (sB (decN 2)), w_ 2, o_, o_, o_] [10, 8, 7, 6, 4, 3, 1, 0, 57, 58] (fun Kt => CallP Tryd.prog 37 [aG #[nv 2 lv43]] ((gt, oC #[sB [], iN 1] 81) :: (gk, oC #[iN 2, iN 1, iN 1, iN 1] 73) :: O47) (sB (decN 2)) ∧ bs (decN 2) = bs [50] ∧ Kt [(58, pT gk), (57, .bool true), (10, iN 1), (8, iN 0), (7, iN 2), (6, .bool false), (4, .bool true), (3, iN 1), (1, pT gk), (0, .bool false)] ((gt, oC #[sB [], iN 1] 81) :: (gk, oC #[iN 2, iN 1, iN 1, iN 1] 73) :: O47)) (by kernel_rfl) (fun _ => by kernel_rfl) (⟨⟨en_ntext, fun w Hw => ntext_any 2 lv43 (qok (by decide +kernel)) w (hT_51.at (Has.tl (Has.tl Hw))) ((hN49.get 0 rfl).at (Has.tl (Has.tl Hw)))⟩, (congrArg bs ((decN_of (N := 2) (n := 1) (by decide +kernel) (by decide) (by decide +kernel)).trans (by decide +kernel))), fun ac53 wd53 FF53 MM53 => ?_⟩)
  refine st_callE [57, 10, 8, 7, 6, 4, 3, 1, 0, 59] FF53 (d := 59) (mk := fun v => .agg #[nv (toN 2 1 1 1 (2 * 1 + 1)) v]) en_ktotal rfl rfl (ktotal_any gk 2 1 1 1 hk21 _ (MM53.get 1 rfl)) rfl (by kernel_rfl) (by decide) fun ac55 wd55 lv54 (FF55 : Fr 92 ac55 [(59, aG #[nv (toN 2 1 1 1 (2 * 1 + 1)) lv54]), (57, .bool true), (10, iN 1), (8, iN 0), (7, iN 2), (6, .bool false), (4, .bool true), (3, iN 1), (1, pT gk), (0, .bool false)]) hr56 => ?_
  have hfr57 : ∀ g, (nv (toN 2 1 1 1 (2 * 1 + 1)) lv54).ownBlock = some g → w0.heap.size ≤ g := fun g hg => Nat.le_trans MM53.size (hr56.2.2 g hg)
  obtain ⟨O58, MM590, hN60, hs61⟩ := MemS.addNats (K := [(gt, oC #[sB [], iN 1] 81), (gk, oC #[iN 2, iN 1, iN 1, iN 1] 73)]) (O := O47) MM53 hr56.1 hr56.2 hN49
  have MM59 : MemS (fun k => k < w0.heap.size ∧ ∀ x ∈ O, x.1 ≠ k) w0 wd55 ((gt, oC #[sB [], iN 1] 81) :: (gk, oC #[iN 2, iN 1, iN 1, iN 1] 73) :: O58) [] := MM590
  have hT_62 := hT_51.mono hs61
  have hz63 : ∀ x ∈ O, x ∈ O58 := fun x hx => hs61 x (hz52 x hx)
  refine rg_part 5 FF55 MM59 [u_ 1 (sB (decN (toN 2 1 1 1 (2 * 1 + 1)))), w_ 2, o_, o_, o_] [10, 8, 7, 6, 4, 3, 1, 0, 63, 64] (fun Kt => CallP Tryd.prog 37 [aG #[nv (toN 2 1 1 1 (2 * 1 + 1)) lv54]] ((gt, oC #[sB [], iN 1] 81) :: (gk, oC #[iN 2, iN 1, iN 1, iN 1] 73) :: O58) (sB (decN (toN 2 1 1 1 (2 * 1 + 1)))) ∧ bs (decN (toN 2 1 1 1 (2 * 1 + 1))) = bs [52] ∧ Kt [(64, pT gk), (63, .bool true), (10, iN 1), (8, iN 0), (7, iN 2), (6, .bool false), (4, .bool true), (3, iN 1), (1, pT gk), (0, .bool false)] ((gt, oC #[sB [], iN 1] 81) :: (gk, oC #[iN 2, iN 1, iN 1, iN 1] 73) :: O58)) (by kernel_rfl) (fun _ => by kernel_rfl) (⟨⟨en_ntext, fun w Hw => ntext_any (toN 2 1 1 1 (2 * 1 + 1)) lv54 (qok (by decide +kernel)) w (hT_62.at (Has.tl (Has.tl Hw))) ((hN60.get 0 rfl).at (Has.tl (Has.tl Hw)))⟩, (congrArg bs ((congrArg decN (show toN 2 1 1 1 (2 * 1 + 1) = 4 by decide +kernel)).trans ((decN_of (N := 4) (n := 1) (by decide +kernel) (by decide) (by decide +kernel)).trans (by decide +kernel)))), fun ac64 wd64 FF64 MM64 => ?_⟩)
  refine st_callE [63, 10, 8, 7, 6, 4, 3, 1, 0, 65] FF64 (d := 65) (mk := fun v => .agg #[nv (wgZ 2 1 1 1 ((1 - 1 : Nat) : Int)) v]) en_kedge rfl rfl (kedge_any gk 2 1 1 1 hk21 _ (MM64.get 1 rfl)) rfl (by kernel_rfl) (by decide) fun ac66 wd66 lv65 (FF66 : Fr 92 ac66 [(65, aG #[nv (wgZ 2 1 1 1 ((1 - 1 : Nat) : Int)) lv65]), (63, .bool true), (10, iN 1), (8, iN 0), (7, iN 2), (6, .bool false), (4, .bool true), (3, iN 1), (1, pT gk), (0, .bool false)]) hr67 => ?_
  have hfr68 : ∀ g, (nv (wgZ 2 1 1 1 ((1 - 1 : Nat) : Int)) lv65).ownBlock = some g → w0.heap.size ≤ g := fun g hg => Nat.le_trans MM64.size (hr67.2.2 g hg)
  obtain ⟨O69, MM700, hN71, hs72⟩ := MemS.addNats (K := [(gt, oC #[sB [], iN 1] 81), (gk, oC #[iN 2, iN 1, iN 1, iN 1] 73)]) (O := O58) MM64 hr67.1 hr67.2 hN60
  have MM70 : MemS (fun k => k < w0.heap.size ∧ ∀ x ∈ O, x.1 ≠ k) w0 wd66 ((gt, oC #[sB [], iN 1] 81) :: (gk, oC #[iN 2, iN 1, iN 1, iN 1] 73) :: O69) [] := MM700
  have hT_73 := hT_62.mono hs72
  have hz74 : ∀ x ∈ O, x ∈ O69 := fun x hx => hs72 x (hz63 x hx)
  refine rg_part 27 FF66 MM70 [u_ 1 (sB (decN (wgZ 2 1 1 1 ((1 - 1 : Nat) : Int)))), w_ 2, o_, o_, o_, w_ 2, o_, o_, o_, o_, o_, o_, o_, o_, o_, o_, w_ 2, o_, o_, o_, w_ 2, o_, o_, o_, w_ 2, o_, o_] [1, 0] (fun Kt => CallP Tryd.prog 37 [aG #[nv (wgZ 2 1 1 1 ((1 - 1 : Nat) : Int)) lv65]] ((gt, oC #[sB [], iN 1] 81) :: (gk, oC #[iN 2, iN 1, iN 1, iN 1] 73) :: O69) (sB (decN (wgZ 2 1 1 1 ((1 - 1 : Nat) : Int)))) ∧ bs (decN (wgZ 2 1 1 1 ((1 - 1 : Nat) : Int))) = bs [49] ∧ 1 = 1 ∧ 2 = 2 ∧ 0 = 0 ∧ 1 = 1 ∧ Kt [(0, .bool true), (1, pT gk)] ((gt, oC #[sB [], iN 1] 81) :: (gk, oC #[iN 2, iN 1, iN 1, iN 1] 73) :: O69)) (by kernel_rfl) (fun _ => by kernel_rfl) (⟨⟨en_ntext, fun w Hw => ntext_any (wgZ 2 1 1 1 ((1 - 1 : Nat) : Int)) lv65 (qok (by decide +kernel)) w (hT_73.at (Has.tl (Has.tl Hw))) ((hN71.get 0 rfl).at (Has.tl (Has.tl Hw)))⟩, (congrArg bs ((congrArg decN (show wgZ 2 1 1 1 ((1 - 1 : Nat) : Int) = 1 by decide +kernel)).trans ((decN_of (N := 1) (n := 1) (by decide +kernel) (by decide) (by decide +kernel)).trans (by decide +kernel)))), (by decide), (by decide), (by decide), (by decide), fun ac75 wd75 FF75 MM75 => ?_⟩)
  refine wpl_nil (then_n ?_)
  refine wp_ret ?_
  repeat first | refine then_ret ?_ | refine inb_ret ?_
  exact (ret_fr FF75 0 Tryd.results8 rfl ⟨rfl, MM75.belowN H (fun _ hx => List.mem_cons_of_mem _ (List.mem_cons_of_mem _ (hz74 _ hx)))⟩)
theorem wakes_w (w : World) (hT : TabIn w) : Calls Tryd.prog 8 #[] w fun e w' => e = .returned (.bool true) ∧ Below w.heap.size w w' := by
  obtain ⟨O, g1, g2, g3⟩ := tab_O hT
  exact wakes_any O (distinct_of g2) g3 w g1
end Go.Proofs.YtlljedijldkcbaaDoor
namespace Go.Proofs.YtlljedijldkcbaaDoor
open Go.RowKit
theorem nbits_nil (w : World) : Calls Tryd.prog 35 #[.agg #[.slice none 0 0]] w fun e w' => e = .returned (iN 0) ∧ Below w.heap.size w w' := nbits_any 0 (.slice none 0 0) (by decide) w (natNew_nil 0 w).1
set_option maxRecDepth 100000 in
theorem none_any (O : Blks) (hD : Distinct O) (hT : TabO O) (n : Int) (_hn1 : -9223372036854775808 ≤ n) (_hn2 : n < 9223372036854775808) (Y X : List Nat) (hY : ∀ i, Y.getD i 0 < 256) (_hX : ∀ i, X.getD i 0 < 256) (w0 : World) (H : Has w0 O) :
    Calls Tryd.prog 7 #[.int .i64 n, sB Y, sB X] w0 fun e w' => e = .returned (.bool true) ∧ Below w0.heap.size w0 w' := by
  refine enter_fr Tryd.func7 rfl Tryd.ntmps7 (by simp) fun ac (FF : Fr 98 ac [(0, .int .i64 (n : Int)), (1, sB Y), (2, sB X)]) => ?_
  have MM : MemS (fun k => k < w0.heap.size ∧ ∀ x ∈ O, x.1 ≠ k) w0 w0 O [] := MemS.startN H hD
  have hk21 : TOk 2 1 1 1 := by unfold TOk; decide
  refine wp_seq (rg_seq FF MM [o_] [0, 1, 2, 6] (fun Kt => Kt [(6, .bool false), (0, .int .i64 (n : Int)), (1, sB Y), (2, sB X)] O) (by kernel_rfl) (fun _ => by kernel_rfl) (fun ac1 wd1 FF1 MM1 => then_n ?_))
  refine wp_seq ?_
  by_cases h1 : Y.length > 40
  · skip
    refine wp_seq (rg_seq FF1 MM1 [o_, t_ (iN Y.length), w_ 2, o_, o_, o_, o_, o_] [6, 0, 1, 2, 23] (fun Kt => iN ((bs Y).size) = iN Y.length ∧ Y.length > 40 ∧ Kt [(23, .bool true), (6, .bool false), (0, .int .i64 (n : Int)), (1, sB Y), (2, sB X)] O) (by kernel_rfl) (fun _ => by kernel_rfl) (⟨(vI (bs_size _)), h1, fun ac2 wd2 FF2 MM2 => then_n ?_⟩))
    refine wp_cond_true (FF2.ev 0 rfl) ?_
    refine wp_seq (rg_seq FF2 MM2 [u_ 1 (.bool true), o_] [6, 0, 1, 2] (fun Kt => CallP Tryd.prog 8 [] O (.bool true) ∧ Kt [(6, .bool true), (0, .int .i64 (n : Int)), (1, sB Y), (2, sB X)] O) (by kernel_rfl) (fun _ => by kernel_rfl) (⟨⟨en_lawwakes, fun w Hw => wakes_w w (hT.at Hw)⟩, fun ac3 wd3 FF3 MM3 => then_n ?_⟩))
    refine wp_ret ?_
    repeat first | refine then_ret ?_ | refine inb_ret ?_
    exact (ret_fr FF3 0 Tryd.results7 rfl ⟨rfl, MM3.belowN H (fun _ hx => hx)⟩)
  · by_cases h2 : X.length > 100
    · skip
      refine wp_seq (rg_seq FF1 MM1 [o_, t_ (iN Y.length), w_ 3, o_, o_, t_ (iN X.length), w_ 2, o_] [6, 0, 1, 2, 23] (fun Kt => iN ((bs Y).size) = iN Y.length ∧ ¬ (Y.length > 40) ∧ iN ((bs X).size) = iN X.length ∧ X.length > 100 ∧ Kt [(23, .bool true), (6, .bool false), (0, .int .i64 (n : Int)), (1, sB Y), (2, sB X)] O) (by kernel_rfl) (fun _ => by kernel_rfl) (⟨(vI (bs_size _)), h1, (vI (bs_size _)), h2, fun ac4 wd4 FF4 MM4 => then_n ?_⟩))
      refine wp_cond_true (FF4.ev 0 rfl) ?_
      refine wp_seq (rg_seq FF4 MM4 [u_ 1 (.bool true), o_] [6, 0, 1, 2] (fun Kt => CallP Tryd.prog 8 [] O (.bool true) ∧ Kt [(6, .bool true), (0, .int .i64 (n : Int)), (1, sB Y), (2, sB X)] O) (by kernel_rfl) (fun _ => by kernel_rfl) (⟨⟨en_lawwakes, fun w Hw => wakes_w w (hT.at Hw)⟩, fun ac5 wd5 FF5 MM5 => then_n ?_⟩))
      refine wp_ret ?_
      repeat first | refine then_ret ?_ | refine inb_ret ?_
      exact (ret_fr FF5 0 Tryd.results7 rfl ⟨rfl, MM5.belowN H (fun _ hx => hx)⟩)
    · skip
      refine wp_seq (rg_seq FF1 MM1 [o_, t_ (iN Y.length), w_ 3, o_, o_, t_ (iN X.length), w_ 3, o_] [6, 0, 1, 2, 23] (fun Kt => iN ((bs Y).size) = iN Y.length ∧ ¬ (Y.length > 40) ∧ iN ((bs X).size) = iN X.length ∧ ¬ (X.length > 100) ∧ Kt [(23, .bool false), (6, .bool false), (0, .int .i64 (n : Int)), (1, sB Y), (2, sB X)] O) (by kernel_rfl) (fun _ => by kernel_rfl) (⟨(vI (bs_size _)), h1, (vI (bs_size _)), h2, fun ac6 wd6 FF6 MM6 => then_n ?_⟩))
      refine wp_cond_false (FF6.ev 0 rfl) ?_
      refine wp_skip ?_
      refine then_n ?_
      refine wp_seq (rg_seq FF6 MM6 [o_] [6, 0, 1, 2, 7] (fun Kt => Kt [(7, .pointer none), (6, .bool false), (0, .int .i64 (n : Int)), (1, sB Y), (2, sB X)] O) (by kernel_rfl) (fun _ => by kernel_rfl) (fun ac7 wd7 FF7 MM7 => then_n ?_))
      refine wp_seq (wp_region_list ?_)
      refine rg_part 2 FF7 MM7 [o_, o_] [7, 6, 0, 1, 2, 26, 27] (fun Kt => Kt [(27, sB Y), (26, .pointer none), (7, .pointer none), (6, .bool false), (0, .int .i64 (n : Int)), (1, sB Y), (2, sB X)] O) (by kernel_rfl) (fun _ => by kernel_rfl) (fun ac8 wd8 FF8 MM8 => ?_)
      refine st_callE [26, 7, 6, 0, 1, 2, 28] FF8 (d := 28) (mk := fun v => .agg #[nv (leV Y) v]) en_nbytes rfl rfl (nbytes_any Y hY (by omega) _) rfl (by kernel_rfl) (by decide) fun ac10 wd10 lv9 (FF10 : Fr 98 ac10 [(28, aG #[nv (leV Y) lv9]), (26, .pointer none), (7, .pointer none), (6, .bool false), (0, .int .i64 (n : Int)), (1, sB Y), (2, sB X)]) hr11 => ?_
      obtain ⟨O12, MM130, hN14, hs15⟩ := MemS.addNats (K := []) (O := O) MM8 hr11.1 hr11.2 (Nats.nil O)
      have MM13 : MemS (fun k => k < w0.heap.size ∧ ∀ x ∈ O, x.1 ≠ k) w0 wd10 O12 [] := MM130
      have hT_16 := hT.mono hs15
      refine rg_part 6 FF10 MM13 [t_ (.tuple #[iN 0, .bool false]), o_, o_, o_, o_, o_] [7, 6, 0, 1, 2, 9] (fun Kt => CallP Tryd.prog 21 [.pointer none, aG #[nv (leV Y) lv9]] [] (.tuple #[iN 0, .bool false]) ∧ Kt [(9, .bool false), (7, .pointer none), (6, .bool false), (0, .int .i64 (n : Int)), (1, sB Y), (2, sB X)] O12) (by kernel_rfl) (fun _ => by kernel_rfl) (⟨(callP_of en_kat (kat_nil (leV Y) lv9) _), fun ac17 wd17 FF17 MM17 => ?_⟩)
      refine wpl_nil (then_n ?_)
      refine wp_seq (wp_region_list ?_)
      refine rg_part 2 FF17 MM17 [o_, o_] [9, 7, 6, 0, 1, 2, 33, 34] (fun Kt => Kt [(34, sB X), (33, .pointer none), (9, .bool false), (7, .pointer none), (6, .bool false), (0, .int .i64 (n : Int)), (1, sB Y), (2, sB X)] O12) (by kernel_rfl) (fun _ => by kernel_rfl) (fun ac18 wd18 FF18 MM18 => ?_)
      refine st_callE [33, 9, 7, 6, 0, 1, 2, 35] FF18 (d := 35) (mk := fun v => v) en_tnew rfl rfl (tnew_any X _) rfl (by kernel_rfl) (by decide) fun ac20 wd20 lv19 (FF20 : Fr 98 ac20 [(35, lv19), (33, .pointer none), (9, .bool false), (7, .pointer none), (6, .bool false), (0, .int .i64 (n : Int)), (1, sB Y), (2, sB X)]) hr21 => ?_
      obtain ⟨gt, rfl, hB_gt, hf_gt, hb_gt⟩ := hr21
      have MM22 := MM18.keep hB_gt
      have MM23 : MemS (fun k => k < w0.heap.size ∧ ∀ x ∈ O, x.1 ≠ k) w0 wd20 ((gt, oC #[sB X, iN 0] 81) :: O12) [] := MM18.addFresh MM22 hb_gt hf_gt
      refine rg_part 6 FF20 MM23 [t_ (.tuple #[iN 0, iN 1]), o_, o_, o_, o_, o_] [9, 7, 6, 0, 1, 2, 10, 11] (fun Kt => CallP Tryd.prog 26 [.pointer none, pT gt, iN 1] [] (.tuple #[iN 0, iN 1]) ∧ Kt [(11, iN 1), (10, iN 0), (9, .bool false), (7, .pointer none), (6, .bool false), (0, .int .i64 (n : Int)), (1, sB Y), (2, sB X)] ((gt, oC #[sB X, iN 0] 81) :: O12)) (by kernel_rfl) (fun _ => by kernel_rfl) (⟨(callP_of en_kdraw (kdraw_knil gt ((1 : Nat) : Int)) _), fun ac24 wd24 FF24 MM24 => ?_⟩)
      refine wpl_nil (then_n ?_)
      refine wp_seq (wp_region_list ?_)
      refine st_callE [11, 10, 9, 7, 6, 0, 1, 2, 40] FF24 (d := 40) (mk := fun v => .tuple #[v, iN 0]) en_knew rfl rfl (knew_yes 2 1 1 1 hk21 _) rfl (by kernel_rfl) (by decide) fun ac26 wd26 lv25 (FF26 : Fr 98 ac26 [(40, .tuple #[lv25, iN 0]), (11, iN 1), (10, iN 0), (9, .bool false), (7, .pointer none), (6, .bool false), (0, .int .i64 (n : Int)), (1, sB Y), (2, sB X)]) hr27 => ?_
      obtain ⟨gk, rfl, hB_gk, hf_gk, hb_gk⟩ := hr27
      have MM28 := MM24.keep hB_gk
      have MM29 : MemS (fun k => k < w0.heap.size ∧ ∀ x ∈ O, x.1 ≠ k) w0 wd26 ((gk, oC #[iN 2, iN 1, iN 1, iN 1] 73) :: (gt, oC #[sB X, iN 0] 81) :: O12) [] := MM24.addFresh MM28 hb_gk hf_gk
      refine rg_part 5 FF26 MM29 [o_, o_, o_, o_, o_] [11, 10, 9, 7, 6, 0, 1, 2, 12, 13] (fun Kt => Kt [(13, iN 0), (12, pT gk), (11, iN 1), (10, iN 0), (9, .bool false), (7, .pointer none), (6, .bool false), (0, .int .i64 (n : Int)), (1, sB Y), (2, sB X)] ((gk, oC #[iN 2, iN 1, iN 1, iN 1] 73) :: (gt, oC #[sB X, iN 0] 81) :: O12)) (by kernel_rfl) (fun _ => by kernel_rfl) (fun ac30 wd30 FF30 MM30 => ?_)
      refine wpl_nil (then_n ?_)
      refine wp_seq (rg_seq FF30 MM30 [o_, u_ 1 (.tuple #[iN 0, iN 1]), o_, o_, o_, o_, o_] [13, 11, 10, 9, 7, 6, 0, 1, 2, 15] (fun Kt => CallP Tryd.prog 26 [pT gk, .pointer none, iN 1] ((gk, oC #[iN 2, iN 1, iN 1, iN 1] 73) :: (gt, oC #[sB X, iN 0] 81) :: O12) (.tuple #[iN 0, iN 1]) ∧ Kt [(15, iN 1), (13, iN 0), (11, iN 1), (10, iN 0), (9, .bool false), (7, .pointer none), (6, .bool false), (0, .int .i64 (n : Int)), (1, sB Y), (2, sB X)] ((gk, oC #[iN 2, iN 1, iN 1, iN 1] 73) :: (gt, oC #[sB X, iN 0] 81) :: O12)) (by kernel_rfl) (fun _ => by kernel_rfl) (⟨⟨en_kdraw, fun w Hw => kdraw_pnil gk 2 1 1 1 hk21 ((1 : Nat) : Int) w (Hw 0 _ rfl)⟩, fun ac31 wd31 FF31 MM31 => then_n ?_⟩))
      refine wp_seq (rg_seq FF31 MM31 [o_, t_ (iN 0), w_ 2, o_, o_, t_ (iN 0), w_ 2, o_, o_, o_, o_, t_ (aG #[.slice none 0 0]), t_ (iN 0), w_ 2, o_, o_, o_, t_ (aG #[.slice none 0 0]), t_ (iN 0), w_ 2, o_, o_, o_, t_ (aG #[.slice none 0 0]), t_ (iN 0), w_ 2, o_, o_, o_, o_, o_, o_, o_, w_ 2, o_, o_, o_, w_ 2, o_, o_, o_, w_ 2, o_, o_, o_, w_ 2, o_, o_, u_ 1 (.bool true), o_, o_] [7, 6, 1, 2] (fun Kt => CallP Tryd.prog 11 [.pointer none] [] (iN 0) ∧ 0 = 0 ∧ CallP Tryd.prog 13 [.pointer none] [] (iN 0) ∧ 0 = 0 ∧ CallP Tryd.prog 20 [.pointer none, .int .i64 (n : Int)] [] (aG #[.slice none 0 0]) ∧ CallP Tryd.prog 35 [aG #[.slice none 0 0]] [] (iN 0) ∧ 0 = 0 ∧ CallP Tryd.prog 16 [.pointer none] [] (aG #[.slice none 0 0]) ∧ CallP Tryd.prog 35 [aG #[.slice none 0 0]] [] (iN 0) ∧ 0 = 0 ∧ CallP Tryd.prog 18 [.pointer none] [] (aG #[.slice none 0 0]) ∧ CallP Tryd.prog 35 [aG #[.slice none 0 0]] [] (iN 0) ∧ 0 = 0 ∧ 0 = 0 ∧ 1 = 1 ∧ 0 = 0 ∧ 1 = 1 ∧ CallP Tryd.prog 8 [] ((gk, oC #[iN 2, iN 1, iN 1, iN 1] 73) :: (gt, oC #[sB X, iN 0] 81) :: O12) (.bool true) ∧ Kt [(6, .bool true), (7, .pointer none), (1, sB Y), (2, sB X)] ((gk, oC #[iN 2, iN 1, iN 1, iN 1] 73) :: (gt, oC #[sB X, iN 0] 81) :: O12)) (by kernel_rfl) (fun _ => by kernel_rfl) (⟨(callP_of en_kleast kleast_nil _), rfl, (callP_of en_kmost kmost_nil _), rfl, (callP_of en_kweight (kweight_nil n) _), (callP_of en_nbits nbits_nil _), rfl, (callP_of en_ktotal ktotal_nil _), (callP_of en_nbits nbits_nil _), rfl, (callP_of en_kedge kedge_nil _), (callP_of en_nbits nbits_nil _), rfl, (by decide), (by decide), (by decide), (by decide), ⟨en_lawwakes, fun w Hw => wakes_w w (hT_16.at (Has.tl (Has.tl Hw)))⟩, fun ac32 wd32 FF32 MM32 => then_n ?_⟩))
      refine wp_ret ?_
      repeat first | refine then_ret ?_ | refine inb_ret ?_
      exact (ret_fr FF32 0 Tryd.results7 rfl ⟨rfl, MM32.belowN H (fun _ hx => List.mem_cons_of_mem _ (List.mem_cons_of_mem _ (hs15 _ hx)))⟩)
end Go.Proofs.YtlljedijldkcbaaDoor
namespace Go.Proofs.YtlljedijldkcbaaDoor
open Go.RowKit
def pw10 : List Nat := [1, 10, 100, 1000, 10000, 100000, 1000000, 10000000, 100000000, 1000000000, 10000000000, 100000000000, 1000000000000, 10000000000000, 100000000000000, 1000000000000000, 10000000000000000, 100000000000000000, 1000000000000000000, 10000000000000000000]
theorem pw10_at : ∀ i : Fin 20, pw10[i.val]? = some (10 ^ i.val) := by decide +kernel
theorem tab_in {w : World} {T : TypeId} {fr : Nat × Nat} (h : w.heap[2]? = some (.cells (cn .u64 pw10) T fr)) : TabIn w := .inr ⟨2, _, T, fr, rfl, h, fun j hj => by
  have := pw10_at ⟨j, hj⟩
  simp [cn, this]⟩
end Go.Proofs.YtlljedijldkcbaaDoor
namespace Go.Proofs.YtlljedijldkcbaaDoor
open Go.RowKit
theorem laid_mem {P : Program} {W : World} : ∀ (laid : List (String × DataW Unit)) (ps : List MemPlace), DataW.LaidVars P W laid ps → ∀ x ∈ laid, ∃ g t cs fuel p, P.globalNamed x.1 = some g ∧ (P.globals[g]?).map (·.type) = some t ∧ W.var? P x.1 = some cs ∧ DataW.trod (fun _ => ()) P W 0 (fun _ => true) false fuel t cs.toList = some (x.2, p)
  | [], _, _, _, hx => by cases hx
  | (n, d) :: r, ps, h, x, hx => by
    obtain ⟨g, t, cs, fuel, p, q, h1, h2, h3, h4, h5, _⟩ := h
    rcases List.mem_cons.1 hx with rfl | hx
    · exact ⟨g, t, cs, fuel, p, h1, h2, h3, h4⟩
    · exact laid_mem r q h5 x hx
/-- A table of numbers that is laid lies in its block. -/
theorem tab_of {P : Program} {W : World} {laid : List (String × DataW Unit)} {n : String} {D : DataW Unit} {g : Nat} {t e : TypeId} {m : Nat} {k : IntKind} {K : List Nat} (h : laidMetH P laid W) (hH : (laid.all fun x => x.2.handleName?.isNone) = true) (hx : (n, D) ∈ laid)
    (hg : P.globalNamed n = some g) (ht : (P.globals[g]?).map (·.type) = some t) (hu : P.underlying t = some (.array m e)) (he : P.underlying e = some (.int k)) (hc : P.cellsOf e = 1) (hct : P.cellsOf t = m) (hD : D = .agg (K.map fun (x : Nat) => .lit (.int k (x : Int)))) (hK : K.length = m) :
    ∃ T fr, W.heap[g]? = some (.cells (cn k K) T fr) := by
  rw [MakeChecks.laidMetH_plain _ _ _ hH] at h
  obtain ⟨ps, hl, _⟩ := h
  obtain ⟨g', t', cs, fuel, p, h1, h2, h3, h4⟩ := laid_mem laid ps hl _ hx
  obtain rfl := Option.some.inj (hg.symm.trans h1)
  obtain rfl := Option.some.inj (ht.symm.trans h2)
  have hb : ∃ T fr, W.heap[g]? = some (.cells cs T fr) := by
    simp only [World.var?, hg, Option.bind_some] at h3
    split at h3
    · rename_i c T fr hb
      cases h3
      exact ⟨T, fr, hb⟩
    · cases h3
  obtain ⟨T, fr, hb⟩ := hb
  refine ⟨T, fr, ?_⟩
  rw [hb]
  obtain ⟨xs, m1, _, hx1, hlen, hn, hel⟩ := DataW.trod_array hu h4
  have hx2 : D = .agg (xs.map fun x => x.1) := (Prod.mk.inj hx1).1
  rw [hD] at hx2
  have hx3 : (K.map fun (x : Nat) => (DataW.lit (.int k (x : Int)) : DataW Unit)) = xs.map fun x => x.1 := by injection hx2
  have hcs : cs = cn k K := by
    refine Array.ext_getElem? fun i => ?_
    rcases Nat.lt_or_ge i m with hi | hi
    · have e1 := hel i hi
      have e2 : xs[i]? = some (xs[i]'(by omega)) := by simp
      rw [e2, hc] at e1
      obtain ⟨z, e3, e4, _⟩ := DataW.trod_int he e1
      have e5 := congrArg (fun l => l[i]?) hx3
      simp only [List.getElem?_map, e2, e4, List.getElem?_eq_getElem (show i < K.length by omega), Option.map_some, Option.some.injEq, DataW.lit.injEq, Lit.int.injEq] at e5
      have e6 := congrArg (fun l => l[0]?) e3
      rw [Nat.mul_one] at e6
      have e7 : cs[i]? = some (.int k z) := by simpa using e6
      rw [e7, cn_get k K i (by omega), ← e5.2]
      simp [show i < K.length by omega]
    · rw [Array.getElem?_eq_none (by rw [← Array.length_toList, hlen, hct]; exact hi), Array.getElem?_eq_none (by rw [cn_size, hK]; exact hi)]
  rw [hcs]
end Go.Proofs.YtlljedijldkcbaaDoor
