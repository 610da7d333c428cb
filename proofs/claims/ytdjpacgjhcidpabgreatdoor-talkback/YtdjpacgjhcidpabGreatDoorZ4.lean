/- Several texts in one: Package sha: Sum. Numbers of layer 7: bytes of numbers, packs. No program in this text. What strings.Builder's own text does: a pointer held against nil and against itself, turned to a bare pointer and back; a row's bytes as a string. strings.Builder: WriteString, String. Package derive: lowest, Pack. Package derive: Key, ID, Round, Nonce. Numbers of the field: words, sums, the reduction. No program in this text. Package field: sums and differences of words. Package field: products of words; which of two. Package field: the reduction. Package field: products. Package field: Num, Sub, Pick. Package field: Inv. Package field: Of, Key. Package field: sums and products of rows. -/
import Derived.Test.YtdjpacgjhcidpabGreatDoorZ3
import Derived.Laws.Externs
import Derived.Test.YtdjpacgjhcidpabGreatDoorZ2
import Derived.Laws.Small
import Derived.Lib.Mul64
import Derived.Laws.BitsAllLaws
namespace Go.Proofs.YtdjpacgjhcidpabGreatDoor
open Go.RowKit
set_option maxRecDepth 100000 in
set_option maxHeartbeats 1000000 in
theorem ssum_some (Tg : TypeId) (fg : Nat × Nat) (Ps : List (List Nat)) (hP : ∀ X ∈ Ps, ∀ i, X.getD i 0 < 256) (hn : Ps.length < 9223372036854775808) (pb off cap T9 : Nat) (fr : Nat × Nat) (cs : Array Value) (hp : ∀ j, j < Ps.length → cs[off + j]? = some (sB (Ps.getD j []))) (hl : Ps.flatten.length < 2305843009213693952) (hD : Distinct [(0, .cells (cn .u32 kTab) Tg fg), (pb, .cells cs T9 fr)]) (w0 : World) (H : Has w0 [(0, .cells (cn .u32 kTab) Tg fg), (pb, .cells cs T9 fr)]) :
    Calls Tryz.prog 70 #[.slice (some ⟨pb, off, none⟩) Ps.length cap] w0 fun e w' => e = .returned (.agg (cn .u8 (shaN Ps.flatten))) ∧ Below w0.heap.size w0 w' := by
  have MM := MemS.startN H hD
  refine enter_fr Tryz.func70 rfl Tryz.ntmps70 (by simp) fun ac (FF : Fr 39 ac [(0, .slice (some ⟨pb, off, none⟩) Ps.length cap)]) => ?_
  refine wp_seq (rg_c FF MM [(0, s_ 0 (.cells (cn .u8 (List.replicate 32 0)) 23))] 3 [] [] (⟨(by kernel_rfl), fun bo => fun _ _ FF1 MM1 => then_n ?_⟩))
  refine wp_seq (rg_c FF1 MM1 [(0, t_ (.agg (cn .u32 iv))), (0, s_ 0 (.cells (cn .u32 (List.replicate 8 0)) 166)), (0, b_ 0)] 4 [] [] (⟨(callP_of en_first first_any _), (by kernel_rfl), fun bh => ⟨rfl, ((cn_size _ _).trans (List.length_replicate ..)), ((cn_size _ _).trans iv_wds.len), (cn_one _ _), rfl, fun _ _ FF2 MM2 => then_n ?_⟩⟩))
  refine wp_seq (rg_c FF2 MM2 [(0, s_ 0 (.cells ((cn .u8 (List.replicate 64 0)) ++ (#[iN 0] : Array Value)) 169))] 5 [] [] (⟨(by kernel_rfl), fun bb => fun _ _ FF3 MM3 => then_n ?_⟩))
  refine wp_seq (rg_c FF3 MM3 [] 6 [] [] (fun _ wd4 FF4 MM4 => then_n ?_))
  have hn0 : ∀ i, ([] : List Nat).getD i 0 < 256 := nil_lt
  have MMs : MemS (fun k => k < w0.heap.size ∧ ∀ x ∈ [(0, Obj.cells (cn .u32 kTab) Tg fg), (pb, .cells cs T9 fr)], x.1 ≠ k) w0 wd4 [(bb, .cells (sblk (sRem [])) 169), (bh, .cells (cn .u32 (sH [])) 166), (bo, .cells (cn .u8 (List.replicate 32 0)) 23), (0, .cells (cn .u32 kTab) Tg fg), (pb, .cells cs T9 fr)] [] := by rw [show sRem [] = [] from rfl, ← szero, show sH [] = iv from rfl]; exact MM4
  refine wp_seq ?_
  refine wp_seq (rg_c FF4 MMs [] 12 [] [0] (fun _ _ FF5 MM5 => then_n ?_))
  refine wp_for (fun a' w' => ∃ j : Nat, j ≤ Ps.length ∧ Fr 39 a' [(11, iN j), (10, iN Ps.length), (9, .slice (some ⟨pb, off, none⟩) Ps.length cap), (5, iW ((Ps.take j).flatten.length)), (4, pT bb), (3, pT bh), (2, pT bo)] ∧ MemS (fun k => k < w0.heap.size ∧ ∀ x ∈ [(0, Obj.cells (cn .u32 kTab) Tg fg), (pb, .cells cs T9 fr)], x.1 ≠ k) w0 w' [(bb, .cells (sblk (sRem ((Ps.take j).flatten))) 169), (bh, .cells (cn .u32 (sH ((Ps.take j).flatten))) 166), (bo, .cells (cn .u8 (List.replicate 32 0)) 23), (0, .cells (cn .u32 kTab) Tg fg), (pb, .cells cs T9 fr)] []) (fun a' _ => (Ps.length - cnt 11 a').toNat) ⟨0, by omega, FF5.pick [0, 1, 2, 3, 4, 5, 6], MM5⟩ ?_
  rintro ac6 wd6 ⟨j, hj, FF6, MM6⟩
  have hc := cnt_of (FF6.get 0 rfl)
  refine rg_c FF6 MM6 [] 13 [] [] (fun _ _ FF7 MM7 => ?_)
  by_cases hlt : j < Ps.length
  · skip
    refine then_n (.inl ⟨(FF7.ev 0 rfl).trans (dec_t hlt), ?_⟩)
    have hPj : ∀ i, (Ps.getD j []).getD i 0 < 256 := hP _ (by rw [List.getD_eq_getElem?_getD, List.getElem?_eq_getElem hlt]; exact List.getElem_mem hlt)
    have hft := congrArg List.length (flat_take Ps j hlt)
    rw [List.length_append] at hft
    have hfl := flat_le Ps (j + 1)
    refine wp_seq (rg_c FF7 MM7 [(1, l_ 4 (sB (Ps.getD j [])))] 12 [] [] (⟨by omega, rfl, (hp j hlt), fun _ _ FF8 MM8 => then_n ?_⟩))
    refine wp_seq (rg_c FF8 MM8 [(2, t_ (iN ((Ps.getD j []).length))), (0, w_ 1), (0, u_ 1 (iW ((Ps.take (j + 1)).flatten.length)))] 12 [] [] (⟨(vI (bs_size _)), by omega, by omega, (vI hft.symm), fun _ _ FF9 MM9 => then_n ?_⟩))
    refine wp_for2w (fun a' w' => ∃ C : List Nat, ∃ X : List Nat, C ++ X = (Ps.take j).flatten ++ Ps.getD j [] ∧ (∀ i, C.getD i 0 < 256) ∧ (∀ i, X.getD i 0 < 256) ∧ Fr 39 a' [(5, iW ((Ps.take (j + 1)).flatten.length)), (7, sB X), (11, iN j), (10, iN Ps.length), (9, .slice (some ⟨pb, off, none⟩) Ps.length cap), (4, pT bb), (3, pT bh), (2, pT bo)] ∧ MemS (fun k => k < w0.heap.size ∧ ∀ x ∈ [(0, Obj.cells (cn .u32 kTab) Tg fg), (pb, .cells cs T9 fr)], x.1 ≠ k) w0 w' [(bb, .cells (sblk (sRem C)) 169), (bh, .cells (cn .u32 (sH C)) 166), (bo, .cells (cn .u8 (List.replicate 32 0)) 23), (0, .cells (cn .u32 kTab) Tg fg), (pb, .cells cs T9 fr)] []) (fun a' _ => strLen 7 a') ⟨(Ps.take j).flatten, Ps.getD j [], rfl, flat_lt (fun Y hY => hP Y (List.mem_of_mem_take hY)), hPj, FF9.pick [0, 1, 2, 3, 4, 5, 6, 7], MM9⟩ ?_
    rintro ac10 wd10 ⟨C, X, hC, hCl, hXl, FF10, MM10⟩
    have hm1 := strLen_of (FF10.get 1 rfl)
    refine rg_c FF10 MM10 [(1, t_ (iN X.length))] 12 [22] [] (⟨(vI (bs_size _)), fun _ _ FF11 MM11 => ?_⟩)
    by_cases hX0 : X.length > 0
    · skip
      refine then_n (.inl ⟨(FF11.ev 0 rfl).trans (dec_t hX0), ?_⟩)
      refine wp_seq (rg_c FF11 MM11 [(1, c_ (sB (X.drop (64 - (sRem C).length))) [(0, .cells (sblk ((sRem C) ++ X.take (64 - (sRem C).length))) 169)])] 12 [] [] (⟨⟨en_sfill, fun w H => sfill_any _ _ _ 0 (srem_lt C) hXl _ rfl w H⟩, fun _ _ FF12 MM12 => then_n ?_⟩))
      refine wp_seq (rg_c FF12 MM12 [(1, l_ 0 (iN (((sRem C) ++ X.take (64 - (sRem C).length)).length)))] 12 [27] [] (⟨rfl, ((cat_r 0 ((cn_size _ _).trans (sPad_len (sfill_len (srem_le _)))) rfl).trans rfl), fun _ wd13 FF13 MM13 => then_n ?_⟩))
      by_cases hs27 : (((sRem C) ++ X.take (64 - (sRem C).length)).length) = 64
      · refine wp_cond_true ((FF13.ev 0 rfl).trans (dec_t hs27)) ?_
        refine wp_seq (rg_c FF13 MM13 [(0, b_ 1), (1, l_ 0 (.agg (cn .u8 (sPad ((sRem C) ++ X.take (64 - (sRem C).length)))))), (0, u_ 1 (.agg (cn .u32 (aftN (sH C) (sPad ((sRem C) ++ X.take (64 - (sRem C).length))))))), (0, b_ 1)] 12 [] [] (⟨rfl, ((cn_size _ _).trans (sHs_wds C _).len), rfl, (part_l (part_whole _)), ((cn_size _ _).trans (sPad_len (sfill_len (srem_le _)))), ⟨en_after, fun w Hw => after_any Tg fg (sH C) (sPad ((sRem C) ++ X.take (64 - (sRem C).length))) ⟨(sHs_wds C _).len, (sHs_wds C _).lt⟩ ⟨(sPad_len (sfill_len (srem_le _))), (sPad_lt (sfill_lt (sRem_lt hCl) hXl))⟩ w (Hw 3 _ rfl)⟩, rfl, ((cn_size _ _).trans (sHs_wds C _).len), ((cn_size _ _).trans (aftN_wds _ _).len), (cn_one _ _), rfl, fun _ _ FF14 MM14 => then_n ?_⟩))
        refine rg_c FF14 MM14 [(0, t_ (.agg ((cn .u8 (List.replicate 64 0)) ++ (#[iN 0] : Array Value)))), (0, b_ 0)] 12 [] [] (⟨(by kernel_rfl), rfl, (sblk_size (sfill_len (srem_le _))), (by simp [cn_size]), (one_app (cn_one _ _) (by kernel_rfl)), rfl, fun _ wd15 FF15 MM15 => ?_⟩)
        refine inb_n ?_
        have hst := s_full C (X.take (64 - (sRem C).length)) hs27
        have hl2 : ∀ i, (C ++ X.take (64 - (sRem C).length)).getD i 0 < 256 := app_lt hCl (take_lt hXl)
        have MMf := MM15
        rw [sPad_full hs27, szero] at MMf
        have MMx : MemS (fun k => k < w0.heap.size ∧ ∀ x ∈ [(0, Obj.cells (cn .u32 kTab) Tg fg), (pb, .cells cs T9 fr)], x.1 ≠ k) w0 wd15 [(bb, .cells (sblk (sRem (C ++ X.take (64 - (sRem C).length)))) 169), (bh, .cells (cn .u32 (sH (C ++ X.take (64 - (sRem C).length)))) 166), (bo, .cells (cn .u8 (List.replicate 32 0)) 23), (0, .cells (cn .u32 kTab) Tg fg), (pb, .cells cs T9 fr)] [] := by rw [hst.1, hst.2]; exact MMf
        have hm2 := strLen_of (FF15.get 0 rfl)
        refine then_n ⟨⟨C ++ X.take (64 - (sRem C).length), X.drop (64 - (sRem C).length), by rw [List.append_assoc, List.take_append_drop, hC], hl2, drop_lt hXl, FF15.pick [1, 0, 2, 3, 4, 5, 6, 7], MMx⟩, ?_⟩
        rw [hm1, hm2, bs_size, bs_size, List.length_drop]; have := sRem_len C; omega
      · refine wp_cond_false ((FF13.ev 0 rfl).trans (dec_f hs27)) ?_
        refine wp_skip ?_
        refine inb_n ?_
        have hst := s_in C (X.take (64 - (sRem C).length)) (by have := sfill_len (X := X) (srem_le C); omega)
        have hl2 : ∀ i, (C ++ X.take (64 - (sRem C).length)).getD i 0 < 256 := app_lt hCl (take_lt hXl)
        have MMx : MemS (fun k => k < w0.heap.size ∧ ∀ x ∈ [(0, Obj.cells (cn .u32 kTab) Tg fg), (pb, .cells cs T9 fr)], x.1 ≠ k) w0 wd13 [(bb, .cells (sblk (sRem (C ++ X.take (64 - (sRem C).length)))) 169), (bh, .cells (cn .u32 (sH (C ++ X.take (64 - (sRem C).length)))) 166), (bo, .cells (cn .u8 (List.replicate 32 0)) 23), (0, .cells (cn .u32 kTab) Tg fg), (pb, .cells cs T9 fr)] [] := by rw [hst.1, hst.2]; exact MM13
        have hm2 := strLen_of (FF13.get 1 rfl)
        refine then_n ⟨⟨C ++ X.take (64 - (sRem C).length), X.drop (64 - (sRem C).length), by rw [List.append_assoc, List.take_append_drop, hC], hl2, drop_lt hXl, FF13.pick [2, 1, 3, 4, 5, 6, 7, 8], MMx⟩, ?_⟩
        rw [hm1, hm2, bs_size, bs_size, List.length_drop]; have := sRem_len C; omega
    · skip
      refine then_n (.inr ⟨(FF11.ev 0 rfl).trans (dec_f hX0), ?_⟩)
      obtain rfl : X = [] := List.eq_nil_of_length_eq_zero (by omega)
      rw [List.append_nil] at hC
      rw [← flat_take Ps j hlt] at hC
      subst hC
      refine inb_n (then_n ?_)
      refine rg_c FF11 MM11 [] 12 [] [] (⟨by omega, fun _ _ FF16 MM16 => ?_⟩)
      have hc2 := cnt_of (FF16.get 0 rfl)
      refine then_n ⟨⟨j + 1, by omega, FF16.pick [0, 3, 4, 1, 5, 6, 7], MM16⟩, ?_⟩
      rw [hc, hc2]; omega
  · skip
    refine then_n (.inr ⟨(FF7.ev 0 rfl).trans (dec_f hlt), ?_⟩)
    obtain rfl : j = Ps.length := by omega
    rw [List.take_length] at MM7 FF7
    have hTl : ∀ i, Ps.flatten.getD i 0 < 256 := flat_lt hP
    refine then_n ?_
    refine wp_seq (rg_c FF7 MM7 [(0, b_ 1), (0, b_ 0), (1, u_ 1 (.agg (cn .u32 (sCl (sH Ps.flatten) (sRem Ps.flatten) (8 * Ps.flatten.length))))), (0, t_ (.agg (cn .u8 (dgN (sCl (sH Ps.flatten) (sRem Ps.flatten) (8 * Ps.flatten.length)))))), (0, b_ 2)] 12 [] [] (⟨rfl, ((cn_size _ _).trans (sHs_wds Ps.flatten _).len), rfl, (sblk_size (srem_le _)), ⟨en_closed, fun w Hw => closed_any Tg fg (sH Ps.flatten) (sRem Ps.flatten) Ps.flatten.length ⟨(sHs_wds Ps.flatten _).len, (sHs_wds Ps.flatten _).lt⟩ (srem_lt _) (sRem_lt hTl) hl w (Hw 3 _ rfl)⟩, (callP_of en_digest (digest_any (sCl (sH Ps.flatten) (sRem Ps.flatten) (8 * Ps.flatten.length)) ⟨(sCl_wds _ _ _).len, (sCl_wds (sH Ps.flatten) (sRem Ps.flatten) (8 * Ps.flatten.length)).lt⟩) _), rfl, ((cn_size _ _).trans (List.length_replicate ..)), ((cn_size _ _).trans (dgN_bytes _).len), (cn_one _ _), rfl, fun _ _ FF17 MM17 => then_n ?_⟩))
    refine wp_ret ?_
    repeat first | refine then_ret ?_ | refine inb_ret ?_
    exact (retc FF17 MM17 (k := 32) (i := 2) (j := 6) Tryz.results70 rfl rfl Tryz.underlying23 rfl (by kernel_rfl) ((cn_size _ _).trans (dgN_bytes _).len) ⟨rfl, MM17.belowN H (fun x hx => List.mem_cons_of_mem _ (List.mem_cons_of_mem _ (List.mem_cons_of_mem _ (hx))))⟩)
set_option maxRecDepth 100000 in
set_option maxHeartbeats 1000000 in
theorem ssum_empty (Tg : TypeId) (fg : Nat × Nat) (p : Option Addr) (cap : Nat) (w0 : World) (hg : w0.heap[0]? = some (.cells (cn .u32 kTab) Tg fg)) :
    Calls Tryz.prog 70 #[.slice p 0 cap] w0 fun e w' => e = .returned (.agg (cn .u8 (shaN []))) ∧ Below w0.heap.size w0 w' := by
  have MM := MemS.start1 hg
  refine enter_fr Tryz.func70 rfl Tryz.ntmps70 (by simp) fun ac (FF : Fr 39 ac [(0, .slice p 0 cap)]) => ?_
  refine wp_seq (rg_c FF MM [(0, s_ 0 (.cells (cn .u8 (List.replicate 32 0)) 23))] 3 [] [] (⟨(by kernel_rfl), fun bo => fun _ _ FF1 MM1 => then_n ?_⟩))
  refine wp_seq (rg_c FF1 MM1 [(0, t_ (.agg (cn .u32 iv))), (0, s_ 0 (.cells (cn .u32 (List.replicate 8 0)) 166)), (0, b_ 0)] 4 [] [] (⟨(callP_of en_first first_any _), (by kernel_rfl), fun bh => ⟨rfl, ((cn_size _ _).trans (List.length_replicate ..)), ((cn_size _ _).trans iv_wds.len), (cn_one _ _), rfl, fun _ _ FF2 MM2 => then_n ?_⟩⟩))
  refine wp_seq (rg_c FF2 MM2 [(0, s_ 0 (.cells ((cn .u8 (List.replicate 64 0)) ++ (#[iN 0] : Array Value)) 169))] 5 [] [] (⟨(by kernel_rfl), fun bb => fun _ _ FF3 MM3 => then_n ?_⟩))
  refine wp_seq (rg_c FF3 MM3 [] 6 [] [] (fun _ wd4 FF4 MM4 => then_n ?_))
  have hn0 : ∀ i, ([] : List Nat).getD i 0 < 256 := nil_lt
  have MMs : MemS (fun k => k < w0.heap.size ∧ k ≠ 0) w0 wd4 [(bb, .cells (sblk (sRem [])) 169), (bh, .cells (cn .u32 (sH [])) 166), (bo, .cells (cn .u8 (List.replicate 32 0)) 23), (0, .cells (cn .u32 kTab) Tg fg)] [] := by rw [show sRem [] = [] from rfl, ← szero, show sH [] = iv from rfl]; exact MM4
  refine wp_seq ?_
  refine wp_seq (rg_c FF4 MMs [] 12 [] [0] (fun _ _ FF5 MM5 => then_n ?_))
  refine wp_for (fun a' w' => Fr 39 a' [(11, iN 0), (10, iN 0), (9, .slice p 0 cap), (5, iW 0), (4, pT bb), (3, pT bh), (2, pT bo)] ∧ MemS (fun k => k < w0.heap.size ∧ k ≠ 0) w0 w' [(bb, .cells (sblk (sRem [])) 169), (bh, .cells (cn .u32 (sH [])) 166), (bo, .cells (cn .u8 (List.replicate 32 0)) 23), (0, .cells (cn .u32 kTab) Tg fg)] []) (fun _ _ => 0) ⟨FF5.pick [0, 1, 2, 3, 4, 5, 6], MM5⟩ ?_
  rintro ac6 wd6 ⟨FF6, MM6⟩
  refine rg_c FF6 MM6 [(0, w_ 3)] 13 [] [] (⟨by decide, fun _ _ FF7 MM7 => ?_⟩)
  refine then_n (.inr ⟨FF7.ev 0 rfl, ?_⟩)
  refine then_n ?_
  have hTl : ∀ i, ([] : List Nat).getD i 0 < 256 := nil_lt
  refine wp_seq (rg_c FF7 MM7 [(0, b_ 1), (0, b_ 0), (1, u_ 1 (.agg (cn .u32 (sCl (sH []) (sRem []) (8 * 0))))), (0, t_ (.agg (cn .u8 (dgN (sCl (sH []) (sRem []) (8 * 0)))))), (0, b_ 2)] 12 [] [] (⟨rfl, ((cn_size _ _).trans (sHs_wds [] _).len), rfl, (sblk_size (srem_le _)), ⟨en_closed, fun w Hw => closed_any Tg fg (sH []) (sRem []) 0 ⟨(sHs_wds [] _).len, (sHs_wds [] _).lt⟩ (srem_lt _) (sRem_lt hTl) (by decide) w (Hw 3 _ rfl)⟩, (callP_of en_digest (digest_any (sCl (sH []) (sRem []) (8 * 0)) ⟨(sCl_wds _ _ _).len, (sCl_wds (sH []) (sRem []) (8 * 0)).lt⟩) _), rfl, ((cn_size _ _).trans (List.length_replicate ..)), ((cn_size _ _).trans (dgN_bytes _).len), (cn_one _ _), rfl, fun _ _ FF8 MM8 => then_n ?_⟩))
  refine wp_ret ?_
  repeat first | refine then_ret ?_ | refine inb_ret ?_
  exact (retc FF8 MM8 (k := 32) (i := 2) (j := 6) Tryz.results70 rfl rfl Tryz.underlying23 rfl (by kernel_rfl) ((cn_size _ _).trans (dgN_bytes _).len) ⟨rfl, MM8.below1 3 rfl hg⟩)
theorem ktab_int (i : Nat) (v : Value) (h : (cn .u32 kTab)[i]? = some v) (s : ByteArray) : v ≠ .string s := fun e => by
  subst e
  simp [cn] at h
theorem ssum_any (Tg : TypeId) (fg : Nat × Nat) (Ps : List (List Nat)) (hP : ∀ X ∈ Ps, ∀ i, X.getD i 0 < 256) (hn : Ps.length < 9223372036854775808) (pb off cap T9 : Nat) (fr : Nat × Nat) (cs : Array Value) (hp : ∀ j, j < Ps.length → cs[off + j]? = some (sB (Ps.getD j []))) (hl : Ps.flatten.length < 2305843009213693952) (w0 : World) (hg : w0.heap[0]? = some (.cells (cn .u32 kTab) Tg fg)) (hb : w0.heap[pb]? = some (.cells cs T9 fr)) :
    Calls Tryz.prog 70 #[.slice (some ⟨pb, off, none⟩) Ps.length cap] w0 fun e w' => e = .returned (.agg (cn .u8 (shaN Ps.flatten))) ∧ Below w0.heap.size w0 w' := by
  rcases Nat.eq_zero_or_pos Ps.length with h0 | h0
  · obtain rfl : Ps = [] := List.eq_nil_of_length_eq_zero h0
    exact ssum_empty Tg fg _ cap w0 hg
  · refine ssum_some Tg fg Ps hP hn pb off cap T9 fr cs hp hl ⟨fun y hy => ?_, fun y hy => (nomatch hy), trivial⟩ w0 fun i x hx => ?_
    · obtain rfl := List.mem_singleton.1 hy
      intro e
      have e : pb = 0 := by simpa using e
      subst e
      rw [hg] at hb
      have e3 : cn .u32 kTab = cs := by injection (Option.some.inj hb)
      have := hp 0 h0
      rw [← e3] at this
      exact ktab_int _ _ this _ rfl
    · match i, hx with
      | 0, hx => cases hx; exact hg
      | 1, hx => cases hx; exact hb
      | i + 2, hx => simp at hx
end Go.Proofs.YtdjpacgjhcidpabGreatDoor
namespace Go.Proofs.YtdjpacgjhcidpabGreatDoor
open Go.RowKit
/-- Byte i of a number, the lowest first. -/
def leF (n i : Nat) : Nat := n / 2 ^ (8 * i) % 256
theorem leF_lt (n i : Nat) : leF n i < 256 := Nat.mod_lt _ (by decide)
/-- A number's k lowest bytes, the lowest first. -/
def leN (k n : Nat) : List Nat := genL k (leF n) k
theorem leN_len (k n : Nat) : (leN k n).length = k := genL_len _ _ _
theorem leN_lt (k n : Nat) (i : Nat) : (leN k n).getD i 0 < 256 := genL_lt (by decide) (leF_lt n) k i
/-- Parts, each with its length ahead of it. -/
def packN : List (List Nat) → List Nat
  | [] => []
  | X :: r => leN 4 X.length ++ X ++ packN r
theorem packN_app : ∀ (Ps Qs : List (List Nat)), packN (Ps ++ Qs) = packN Ps ++ packN Qs
  | [], _ => rfl
  | X :: r, Qs => by rw [List.cons_append, packN, packN, packN_app r Qs]; simp only [List.append_assoc]
theorem packN_take (Ps : List (List Nat)) (i : Nat) (h : i < Ps.length) : packN (Ps.take (i + 1)) = packN (Ps.take i) ++ leN 4 (Ps.getD i []).length ++ Ps.getD i [] := by
  rw [List.take_add_one, packN_app, List.getElem?_eq_getElem h]
  simp [packN, List.getD_eq_getElem?_getD, List.getElem?_eq_getElem h]
theorem packN_len : ∀ Ps : List (List Nat), (packN Ps).length = 4 * Ps.length + Ps.flatten.length
  | [] => rfl
  | X :: r => by simp only [packN, List.length_append, leN_len, packN_len r, List.length_cons, List.flatten_cons]; omega
theorem packN_lt : ∀ {Ps : List (List Nat)}, (∀ X ∈ Ps, ∀ i, X.getD i 0 < 256) → ∀ i, (packN Ps).getD i 0 < 256
  | [], _, i => by simp [packN]
  | X :: r, h, i => app_lt (app_lt (leN_lt 4 _) (h X (by simp))) (packN_lt fun Y hY => h Y (by simp [hY])) i
theorem packN_le (Ps : List (List Nat)) (i : Nat) : (packN (Ps.take i)).length ≤ (packN Ps).length := by
  have := flat_le Ps i
  rw [packN_len, packN_len, List.length_take]
  omega
theorem getD_lt {Ps : List (List Nat)} (hP : ∀ X ∈ Ps, ∀ i, X.getD i 0 < 256) {j : Nat} (h : j < Ps.length) : ∀ i, (Ps.getD j []).getD i 0 < 256 := hP _ (by rw [List.getD_eq_getElem?_getD, List.getElem?_eq_getElem h]; exact List.getElem_mem h)
theorem flat2 (A B : List Nat) : [A, B].flatten = A ++ B := by simp
theorem lt2 {A B : List Nat} (h1 : ∀ i, A.getD i 0 < 256) (h2 : ∀ i, B.getD i 0 < 256) : ∀ V ∈ [A, B], ∀ i, V.getD i 0 < 256 := fun V hV => by
  simp only [List.mem_cons, List.not_mem_nil, or_false] at hV
  rcases hV with rfl | rfl <;> assumption
theorem at1s (X : List Nat) : ∀ j, j < [X].length → (#[sB X] : Array Value)[0 + j]? = some (sB ([X].getD j [])) := fun j h => by rw [Nat.zero_add]; exact parts1 X j h
theorem at2s (A B : List Nat) : ∀ j, j < [A, B].length → (#[sB A, sB B] : Array Value)[0 + j]? = some (sB ([A, B].getD j [])) := fun j h => by
  have : j = 0 ∨ j = 1 := by simp at h; omega
  rcases this with rfl | rfl <;> rfl
end Go.Proofs.YtdjpacgjhcidpabGreatDoor
namespace Go.Proofs.YtdjpacgjhcidpabGreatDoor
open Go.RowKit
section
variable {P : Program} {l : Slots} {L : Blks} {o : Oper} {x y : Operand}
theorem ptrSame_ok {t t' e : TypeId} {ad : Addr} (ho : o.op = .binOp .neq t x y t') (hx : evO l x = some (.pointer (some ad))) (hy : evO l y = some (.pointer (some ad))) (hu : P.underlying t = some (.pointer e)) (he : (P.info? e).isSome = true) : RunV P l L o (.bool false) := fun ρ w A _ => by
  obtain ⟨j, hj⟩ := Option.isSome_iff_exists.1 he
  have h2 := Lib.run_neq_ptr_same (P := P) w ad hu hj
  have h3 := A x _ hx
  have h4 := A y _ hy
  simp [execOp, ho, h3, h4, eqGuard, h2]
theorem toUnsafe_ok {src dst t : TypeId} {b i : Nat} {cs : Array Value} {T : TypeId} {fr : Nat × Nat} (ho : o.op = .convert src dst x) (hx : evO l x = some (.pointer (some ⟨b, 0, none⟩))) (hs : P.underlying src = some (.pointer t)) (hd : P.underlying dst = some .unsafePointer)
    (ht : (match P.info? t with | some j => !(Nat.beq j.size 0) | none => false) = true) (hL : L[i]? = some (b, .cells cs T fr)) (hc : 0 < cs.size) : RunV P l L o (.pointer (some ⟨b, 0, none⟩)) := fun ρ w A H => by
  have hb := H i _ hL
  cases hj : P.info? t with
  | none => rw [hj] at ht; cases ht
  | some j =>
    rw [hj] at ht
    have hne : j.size ≠ 0 := fun e => by simp [e] at ht
    have hr := Lib.run_to_unsafe (P := P) w ⟨b, 0, none⟩ hs hd hj hne (e := T) (cells := cs.size) (by simp [World.shape?, hb]) hc
    simp [execOp, ho, A x _ hx, hr]
theorem fromUnsafe_ok {src dst u : TypeId} {b i : Nat} {cs : Array Value} {T : TypeId} {fr : Nat × Nat} (ho : o.op = .convert src dst x) (hx : evO l x = some (.pointer (some ⟨b, 0, none⟩))) (hs : P.underlying src = some .unsafePointer) (hd : P.underlying dst = some (.pointer u))
    (hu : (P.info? u).isSome = true) (hL : L[i]? = some (b, .cells cs T fr)) (hl : liesAt P P.depth T (cs.size / P.cellsOf T) 0 u 1 = true) : RunV P l L o (.pointer (some ⟨b, 0, none⟩)) := fun ρ w A H => by
  have hb := H i _ hL
  obtain ⟨j, hj⟩ := Option.isSome_iff_exists.1 hu
  have hr := Lib.run_from_unsafe (P := P) w ⟨b, 0, none⟩ hs hd hj (e := T) (cells := cs.size) (by simp [World.shape?, hb]) hl
  simp [execOp, ho, A x _ hx, hr]
theorem noEsc_ok {f : FuncId} {fn : Func} {ts : Array TypeId} {v : Value} (ho : o.op = .call ⟨.value (.func f), #[x], ts⟩) (hx : evO l x = some v) (hf : P.funcs[f]? = some fn) (hname : (fn.name == "runtime.NumGoroutine") = false) (hb : fn.body.isNone = true) (hn : Extern.findNext fn = none)
    (he : Extern.find fn = some Extern.AbiNoEscape.same) : RunV P l L o v := fun ρ w A _ => by
  have h1 := A x _ hx
  have h3 : ρ (.func f) = .func (.func f) #[] #[] := A (.func f) _ rfl
  have h4 : (callFunc f #[v]).run P w = .ok (.value v) w := by rw [run_callFunc_extern hf hname hb hn he, Lib.run_noEscape]; rfl
  simp [execOp, ho, resolve, h1, h3, Deferred.ofValue, invoke, h4]
theorem sdNil_ok {t : TypeId} {n c : Nat} (ho : o.op = .call ⟨.builtin .unsafeSliceData, #[x], #[t]⟩) (hx : evO l x = some (.slice none n c)) : RunV P l L o (.pointer none) := fun ρ w A _ => by
  have h1 := A x _ hx
  have h2 := Lib.run_unsafeSliceData_nil (P := P) w #[t] o.type n c
  simp [execOp, ho, resolve, invoke, builtin, h1, h2]
theorem sdRow_ok {t : TypeId} {ad : Addr} {n c : Nat} (ho : o.op = .call ⟨.builtin .unsafeSliceData, #[x], #[t]⟩) (hx : evO l x = some (.slice (some ad) n c)) (hc : c ≠ 0) : RunV P l L o (.pointer (some ad)) := fun ρ w A _ => by
  have h1 := A x _ hx
  have h2 := Lib.run_unsafeSliceData_row (P := P) w #[t] o.type ad n c hc
  simp [execOp, ho, resolve, invoke, builtin, h1, h2]
theorem usNil_ok {t u : TypeId} {p : Option Addr} (ho : o.op = .call ⟨.builtin .unsafeString, #[x, y], #[t, u]⟩) (hx : evO l x = some (.pointer p)) (hy : evO l y = some (.int .i64 (0 : Nat))) : RunV P l L o (.string (bs [])) := fun ρ w A _ => by
  have h1 := A x _ hx
  have h1' := A y _ hy
  have h2 := Lib.run_unsafeString_none (P := P) w t u o.type p
  have e : ((0 : Nat) : Int) = 0 := rfl
  rw [e] at h1'
  simp only [execOp, ho, resolve, invoke, builtin, h1, h1', h2, Sem.run_bind, Sem.run_pure, Result.andThen_ok, List.map_toArray, List.map_cons, List.map_nil]
  rfl
/-- A string over a row's head: the bytes are copied, the row is frozen so far. -/
theorem usRow_ok {t u e : TypeId} {g i : Nat} {cs : Array Value} {X : List Nat} (ho : o.op = .call ⟨.builtin .unsafeString, #[x, y], #[t, u]⟩) (hx : evO l x = some (.pointer (some ⟨g, 0, none⟩))) (hy : evO l y = some (.int .i64 (X.length : Nat)))
    (ht : P.underlying t = some (.pointer e)) (hc : P.cellsOf e = 1) (hL : L[i]? = some (g, .cells cs e)) (h0 : 0 < X.length) (hX : ∀ i, X.getD i 0 < 256) (hn : X.length ≤ cs.size) (h63 : X.length ≤ 9223372036854775807) (hcs : ∀ j, j < X.length → cs[j]? = some (.int .u8 (X.getD j 0 : Nat))) :
    RunU P l L o (.string (bs X)) [(i, .cells cs e (0, X.length))] := fun ρ w A H => by
  have h1 := A x _ hx
  have h1' := A y _ hy
  have hb := H i _ hL
  have hbl : (bs X).data.toList.length = X.length := by rw [Array.length_toList]; exact bs_size X
  have hr := Lib.run_unsafeString_row (P := P) w t u o.type e ht hc g cs.size (by simp [World.shape?, hb]) (bs X).data.toList (by intro h; rw [h] at hbl; simp at hbl; omega) (by rw [hbl]; exact hn) (by rw [hbl]; exact h63) (fun j z hz => by
    have hj : j < X.length := by rw [← hbl]; exact (List.getElem?_eq_some_iff.1 hz).1
    have e1 : (⟨g, 0, none⟩ : Addr).add j = ⟨g, j, none⟩ := by unfold Addr.add; split <;> simp_all
    rw [e1, Lib.cell_of_heap hb, hcs j hj]
    have e2 := byte_bs hX j
    simp only [nl] at e2
    have e3 : z.toNat = X.getD j 0 := by
      rw [← e2]
      simp [hz]
    rw [e3])
  rw [hbl] at hr
  refine ⟨w.freeze ⟨g, 0, none⟩ X.length, .inl ?_, ?_⟩
  · simp only [execOp, ho, resolve, invoke, builtin, h1, h1', hr, Sem.run_bind, Sem.run_pure, Result.andThen_ok, List.map_toArray, List.map_cons, List.map_nil]
  · have hne : X.length ≠ 0 := by omega
    unfold World.freeze
    rw [if_neg hne]
    refine ⟨rfl, rfl, rfl, by simp, fun k hk hu => ?_, fun o h => (nomatch h), fun _ => rfl, fun u hu z hz => ?_⟩
    · simp only [Array.getElem?_modify]
      rw [if_neg]
      intro e
      exact hu _ (List.mem_singleton.2 rfl) _ hL e
    · obtain rfl := List.mem_singleton.1 hu
      simp only at hz
      obtain rfl := Option.some.inj (hL.symm.trans hz)
      simp [Array.getElem?_modify, hb]
end
end Go.Proofs.YtdjpacgjhcidpabGreatDoor
namespace Go.Proofs.YtdjpacgjhcidpabGreatDoor
open Go.RowKit
theorem en_copychk : Enters Tryz.prog 81 := fun args w => by simp [go_sem]
theorem en_bwrite : Enters Tryz.prog 60 := fun args w => by simp [go_sem]
theorem en_bstring : Enters Tryz.prog 62 := fun args w => by simp [go_sem]
theorem en_lowest : Enters Tryz.prog 43 := fun args w => by simp [go_sem]
theorem en_pack : Enters Tryz.prog 71 := fun args w => by simp [go_sem]
theorem en_key : Enters Tryz.prog 45 := fun args w => by simp [go_sem]
theorem en_did : Enters Tryz.prog 26 := fun args w => by simp [go_sem]
theorem en_round : Enters Tryz.prog 27 := fun args w => by simp [go_sem]
theorem en_nonce : Enters Tryz.prog 20 := fun args w => by simp [go_sem]
set_option maxRecDepth 100000 in
theorem copychk_fresh (rv : Value) (b j : Nat) (L : Blks) (hj : L[j]? = some (b, .cells #[.pointer none, rv] 118)) (w0 : World) (H : Has w0 L) :
    Calls Tryz.prog 81 #[pT b] w0 fun e w' => e = .returned (.tuple #[]) ∧ Post w0 w' L ⟨fun _ => .tuple #[], none, [(j, .cells #[pT b, rv] 118)]⟩ 0 := by
  have MM := MemS.start1 (H j _ hj)
  refine enter_fr Tryz.func81 rfl Tryz.ntmps81 (by simp) fun ac (FF : Fr 20 ac [(0, pT b)]) => ?_
  refine wp_seq (rg_c FF MM [(3, l_ 0 (.pointer none)), (0, f_ (.bool true))] 1 [6] [] (⟨rfl, rfl, (ptrNil_ok (t := 116) (t' := 116) (x := .tmp 5) (y := (.const (.pointer none))) (by kernel_rfl) rfl rfl Tryz.underlying116), fun _ _ FF1 MM1 => then_n ?_⟩))
  refine wp_cond_true (FF1.ev 0 rfl) ?_
  refine rg_c FF1 MM1 [(2, f_ (pT b)), (0, f_ (pT b)), (0, f_ (pT b)), (2, s_ 0 (oC #[pT b, rv] 118))] 1 [] [] (⟨(toUnsafe_ok (x := .tmp 8) (i := 0) (by kernel_rfl) rfl Tryz.underlying116 Tryz.underlying176 (by kernel_rfl) rfl (Nat.zero_lt_succ 1)), (noEsc_ok (f := 102) (ts := #[176]) (x := .tmp 9) (by kernel_rfl) rfl Tryz.func102 (by kernel_rfl) (by kernel_rfl) (by kernel_rfl) (by kernel_rfl)), (fromUnsafe_ok (x := .tmp 10) (i := 0) (by kernel_rfl) rfl Tryz.underlying176 Tryz.underlying116 (by kernel_rfl) rfl (by kernel_rfl)), rfl, (by simp), (.inl rfl), rfl, fun _ _ FF2 MM2 => ?_⟩)
  exact (end_none FF2 Tryz.results81 ⟨rfl, MM2.post1 0 rfl hj⟩)
set_option maxRecDepth 100000 in
theorem copychk_used (rv : Value) (b j : Nat) (L : Blks) (hj : L[j]? = some (b, .cells #[pT b, rv] 118)) (w0 : World) (H : Has w0 L) :
    Calls Tryz.prog 81 #[pT b] w0 fun e w' => e = .returned (.tuple #[]) ∧ Post w0 w' L ⟨fun _ => .tuple #[], none, [(j, .cells #[pT b, rv] 118)]⟩ 0 := by
  have MM := MemS.start1 (H j _ hj)
  refine enter_fr Tryz.func81 rfl Tryz.ntmps81 (by simp) fun ac (FF : Fr 20 ac [(0, pT b)]) => ?_
  refine wp_seq (rg_c FF MM [(3, l_ 0 (pT b)), (0, f_ (.bool false))] 1 [6] [] (⟨rfl, rfl, (ptrSome_ok (t := 116) (t' := 116) (x := .tmp 5) (y := (.const (.pointer none))) (by kernel_rfl) rfl rfl Tryz.underlying116), fun _ _ FF1 MM1 => then_n ?_⟩))
  refine wp_cond_false (FF1.ev 0 rfl) ?_
  refine wp_seq (rg_c FF1 MM1 [(3, l_ 0 (pT b)), (1, f_ (.bool false))] 1 [19] [] (⟨rfl, rfl, (ptrSame_ok (t := 116) (t' := 116) (x := .tmp 17) (y := .tmp 18) (by kernel_rfl) rfl rfl Tryz.underlying116 (by kernel_rfl)), fun _ _ FF2 MM2 => then_n ?_⟩))
  refine wp_cond_false (FF2.ev 0 rfl) ?_
  refine wp_skip ?_
  exact (end_none FF2 Tryz.results81 ⟨rfl, MM2.post1 0 rfl hj⟩)
theorem copychk_any (p rv : Value) (b j : Nat) (hp : p = .pointer none ∨ p = pT b) (L : Blks) (hj : L[j]? = some (b, .cells #[p, rv] 118)) (w0 : World) (H : Has w0 L) :
    Calls Tryz.prog 81 #[pT b] w0 fun e w' => e = .returned (.tuple #[]) ∧ Post w0 w' L ⟨fun _ => .tuple #[], none, [(j, .cells #[pT b, rv] 118)]⟩ 0 := by
  rcases hp with rfl | rfl
  · exact copychk_fresh rv b j L hj w0 H
  · exact copychk_used rv b j L hj w0 H
set_option maxRecDepth 100000 in
theorem bwrite_any {S : Nat → Prop} {w0 : World} {L : Blks} {R : List Row} {p : Value} {q : Option Addr} {b n c : Nat} {X : List Value} {Y : List Nat} (hp : p = .pointer none ∨ p = pT b) (hY : ∀ i, Y.getD i 0 < 256) (hb : n + Y.length ≤ 140737488355328) (w : World)
    (M : MemS S w0 w ((b, .cells #[p, .slice q n c] 118) :: L) ((.slice q n c, 5, 1, n, X) :: R)) :
    Calls Tryz.prog 60 #[pT b, sB Y] w fun e w' => e = .returned (.tuple #[iN Y.length, .nilIface]) ∧
      ∃ q' c', MemS S w0 w' ((b, .cells #[pT b, .slice q' (n + Y.length) c'] 118) :: L) ((.slice q' (n + Y.length) c', 5, 1, n + Y.length, X ++ bcells Y) :: R) := by
  refine enter_fr Tryz.func60 rfl Tryz.ntmps60 (by simp) fun ac (FF : Fr 19 ac [(0, pT b), (1, sB Y)]) => ?_
  refine wp_seq (rg_c FF M [] 6 [] [] (fun _ _ FF1 MM1 => then_n ?_))
  refine wp_seq (rg_c FF1 MM1 [(1, c_ (.tuple #[]) [(0, oC #[pT b, .slice q n c] 118)])] 6 [] [] (⟨⟨en_copychk, fun w H => copychk_any _ _ _ 0 hp _ rfl w H⟩, fun _ _ FF2 MM2 => then_n ?_⟩))
  refine wp_seq (wp_region_list ?_)
  refine rp_c 6 FF2 MM2 [(4, l_ 0 (.slice q n c))] 9 [12, 13] [] (⟨rfl, rfl, fun _ _ FF3 MM3 => ?_⟩)
  refine st_appStr [8, 5, 4, 0, 1, 14] FF3 MM3 (d := 14) (s := 12) (Y := Y) rfl rfl rfl hY Tryz.underlying59 Tryz.underlying9 (by kernel_rfl) hb rfl rfl (by decide) fun ac6 wd6 rq4 rc5 FF6 MM6 => ?_
  refine rp_c 3 FF6 MM6 [(2, s_ 0 (oC #[pT b, .slice rq4 (n + Y.length) rc5] 118))] 6 [] [] (⟨rfl, (by simp), (.inl rfl), rfl, fun _ _ FF7 MM7 => ?_⟩)
  refine wpl_nil (then_n ?_)
  refine wp_seq (rg_c FF7 MM7 [(1, t_ (iN Y.length))] 6 [] [] (⟨(vI (bs_size _)), fun _ _ FF8 MM8 => then_n ?_⟩))
  refine wp_ret ?_
  repeat first | refine then_ret ?_ | refine inb_ret ?_
  exact (ret_tup2 FF8 1 0 Tryz.results60 rfl rfl ⟨rfl, ⟨_, _, MM8⟩⟩)
set_option maxRecDepth 100000 in
theorem bstring_nil {S : Nat → Prop} {w0 : World} {L : Blks} {R : List Row} {p : Value} {b : Nat} (w : World) (M : MemS S w0 w ((b, .cells #[p, .slice none 0 0] 118) :: L) R) :
    Calls Tryz.prog 62 #[pT b] w fun e w' => e = .returned (sB []) ∧ MemS S w0 w' ((b, .cells #[p, .slice none 0 0] 118) :: L) R := by
  refine enter_fr Tryz.func62 rfl Tryz.ntmps62 (by simp) fun ac (FF : Fr 14 ac [(0, pT b)]) => ?_
  refine wp_seq (rg_c FF M [(0, t_ (sB []))] 3 [] [] (⟨(by kernel_rfl), fun _ _ FF1 MM1 => then_n ?_⟩))
  refine wp_seq (rg_dc 12 FF1 MM1 [(3, l_ 0 (.slice none 0 0)), (0, f_ (.pointer none)), (3, l_ 0 (.slice none 0 0)), (1, f_ (sB []))] [] 0 [2] [] (⟨rfl, rfl, (sdNil_ok (t := 59) (x := .tmp 6) (by kernel_rfl) rfl), rfl, rfl, (usNil_ok (t := 142) (u := 3) (x := .tmp 7) (y := .tmp 12) (by kernel_rfl) rfl rfl), fun _ _ FF2 MM2 => then_n ?_⟩))
  refine wp_ret ?_
  repeat first | refine then_ret ?_ | refine inb_ret ?_
  exact (ret_fr FF2 0 Tryz.results62 rfl ⟨rfl, MM2⟩)
set_option maxRecDepth 100000 in
theorem bstring_row {S : Nat → Prop} {w0 : World} {L : Blks} {R : List Row} {p : Value} {b : Nat} {g c : Nat} {cur : Array Value} {X : List Nat} (h0 : 0 < X.length) (hX : ∀ i, X.getD i 0 < 256) (hn : X.length ≤ cur.size) (h63 : X.length ≤ 9223372036854775807) (hc : c ≠ 0) (hcs : ∀ j, j < X.length → cur[j]? = some (iB (X.getD j 0))) (w : World) (M : MemS S w0 w ((g, .cells cur 5) :: (b, .cells #[p, .slice (some ⟨g, 0, none⟩) X.length c] 118) :: L) R) :
    Calls Tryz.prog 62 #[pT b] w fun e w' => e = .returned (sB X) ∧ MemS S w0 w' ((b, .cells #[p, .slice (some ⟨g, 0, none⟩) X.length c] 118) :: L) R := by
  refine enter_fr Tryz.func62 rfl Tryz.ntmps62 (by simp) fun ac (FF : Fr 14 ac [(0, pT b)]) => ?_
  refine wp_seq (rg_c FF M [(0, t_ (sB []))] 3 [] [] (⟨(by kernel_rfl), fun _ _ FF1 MM1 => then_n ?_⟩))
  refine wp_seq (rg_dc 10 FF1 MM1 [(3, l_ 1 (.slice (some ⟨g, 0, none⟩) X.length c)), (0, f_ (pT g)), (3, l_ 1 (.slice (some ⟨g, 0, none⟩) X.length c))] [(0, r_ (sB X) [(0, .cells cur 5 (0, X.length))])] 0 [2] [] (⟨rfl, rfl, (sdRow_ok (t := 59) (x := .tmp 6) (by kernel_rfl) rfl hc), rfl, rfl, (usRow_ok (t := 142) (u := 3) (e := 5) (i := 0) (x := .tmp 7) (y := .tmp 12) (by kernel_rfl) rfl rfl Tryz.underlying142 (by kernel_rfl) rfl h0 hX hn h63 hcs), fun _ _ FF2 MM2 => then_n ?_⟩))
  refine wp_ret ?_
  repeat first | refine then_ret ?_ | refine inb_ret ?_
  exact (ret_fr FF2 0 Tryz.results62 rfl ⟨rfl, MM2.dropAt 0⟩)
theorem bstring_any {S : Nat → Prop} {w0 : World} {L : Blks} {R : List Row} {p : Value} {q : Option Addr} {b n c : Nat} {X : List Nat} (hX : ∀ i, X.getD i 0 < 256) (hq : 0 < n ∨ q = none) (w : World)
    (M : MemS S w0 w ((b, .cells #[p, .slice q n c] 118) :: L) ((.slice q n c, 5, 1, n, bcells X) :: R)) :
    Calls Tryz.prog 62 #[pT b] w fun e w' => e = .returned (sB X) ∧ MemS S w0 w' ((b, .cells #[p, .slice q n c] 118) :: L) R := by
  have hown : w.ownsRow w0.heap.size 5 1 (.slice q n c) n (bcells X) := M.rows _ (List.mem_cons_self ..)
  have hl : X.length = n := by have := hown.1; simpa [bcells] using this
  subst hl
  rcases hown.2 with ⟨h1, h2⟩ | ⟨g, cap, cur, h1, _⟩
  · simp only [Value.slice.injEq] at h1
    obtain ⟨rfl, _, rfl⟩ := h1
    obtain rfl : X = [] := List.eq_nil_of_length_eq_zero h2
    exact bstring_nil w M.dropRow
  · simp only [Value.slice.injEq] at h1
    obtain ⟨rfl, _, rfl⟩ := h1
    have h0 : 0 < X.length := hq.resolve_right (by simp)
    obtain ⟨cur, M', _, h4, h5, h6, h7, _⟩ := M.freeze
    rw [Nat.mul_one] at h6 h7
    refine bstring_row h0 hX (by omega) (by simp only [maxLen] at h5; omega) (by omega) (fun j hj => ?_) w M'
    have e1 := congrArg (fun l => l[j]?) h7
    simp only [List.getElem?_take, if_pos hj] at e1
    rw [show cur[j]? = cur.toList[j]? by simp, e1]
    simp [bcells, hj]
end Go.Proofs.YtdjpacgjhcidpabGreatDoor
namespace Go.Proofs.YtdjpacgjhcidpabGreatDoor
open Go.RowKit
set_option maxRecDepth 100000 in
theorem lowest_any (n k : Nat) (hn : n < 18446744073709551616) (hk : k ≤ 8) (w0 : World) :
    Calls Tryz.prog 43 #[iW n, iN k] w0 fun e w' => e = .returned (sB (leN k n)) ∧ Below w0.heap.size w0 w' := by
  refine enter_fr Tryz.func43 rfl Tryz.ntmps43 (by simp) fun ac (FF : Fr 25 ac [(0, iW n), (1, iN k)]) => ?_
  have MM := MemS.start w0
  refine wp_seq (rg_c FF MM [(0, t_ (sB []))] 5 [] [] (⟨(by kernel_rfl), fun _ _ FF1 MM1 => then_n ?_⟩))
  refine wp_seq (rg_c FF1 MM1 [(1, n_ (.slice none k k) (.cells (cn .u8 (List.replicate k 0)) 5))] 6 [] [1] (⟨(make_ok (t := 59) (e := 5) (p := (.tmp 7)) (q := (.tmp 7)) (by kernel_rfl) rfl rfl Tryz.underlying59 (by kernel_rfl) (by have := hk; omega)), fun bl => fun _ _ FF2 MM2 => then_n ?_⟩))
  have MMr4 : MemS _ _ _ [(bl, .cells (cn .u8 (genL k (leF n) 0)) 5)] _ := MM2.eqA 0 rfl (by rw [← genL_zero k (leF n)] <;> rfl)
  refine wp_seq ?_
  refine wp_seq (rg_c FF2 MMr4 [] 12 [] [9] (fun _ _ FF3 MM3 => then_n ?_))
  refine wp_for (fun a' w' => ∃ i : Nat, i ≤ k ∧ Fr 25 a' [(11, iN i), (10, iN k), (5, .slice (some ⟨bl, 0, none⟩) k k), (4, sB []), (0, iW n)] ∧ MemS (fun k => k < w0.heap.size) w0 w' [(bl, .cells (cn .u8 (genL k (leF n) i)) 5)] []) (fun a' _ => (k - cnt 11 a').toNat) ⟨0, Nat.zero_le _, FF3.pick [0, 1, 2, 3, 4], MM3⟩ ?_
  rintro ac4 wd4 ⟨i, hi, FF4, MM4⟩
  have hc := cnt_of (FF4.get 0 rfl)
  refine rg_c FF4 MM4 [] 13 [] [] (fun _ _ FF5 MM5 => ?_)
  by_cases hlt : i < k
  · skip
    refine then_n (.inl ⟨(FF5.ev 0 rfl).trans (dec_t hlt), ?_⟩)
    refine wp_seq (rg_c FF5 MM5 [] 12 [] [] (fun _ _ FF6 MM6 => then_n ?_))
    refine rg_c FF6 MM6 [(6, t_ (iB (leF n i))), (0, w_ 1), (0, s_ 0 (.cells (cn .u8 (genL k (leF n) (i + 1))) 5))] 12 [] [] (⟨by omega, (by show _ ≤ 64; have := hn; omega), rfl, by omega, rfl, (by rw [cn_size, (genL_len _ _ _)]; have := hlt; omega), (.inl rfl), ((cn_set _ _ _ _).trans (congrArg _ (genL_step _ _ i hlt rfl))), fun _ _ FF7 MM7 => ?_⟩)
    refine inb_n (then_n ?_)
    refine rg_c FF7 MM7 [] 12 [] [] (⟨by omega, fun _ _ FF8 MM8 => ?_⟩)
    have hd := cnt_of (FF8.get 0 rfl)
    refine then_n ⟨⟨i + 1, by omega, FF8.pick [0, 2, 3, 4, 5], MM8⟩, ?_⟩
    rw [hc, hd]; omega
  · skip
    refine then_n (.inr ⟨(FF5.ev 0 rfl).trans (dec_f hlt), ?_⟩)
    obtain rfl : i = k := by omega
    refine then_n ?_
    refine wp_seq (rg_c FF5 MM5 [(1, l_ 0 (sB (genL i (leF n) i)))] 12 [] [] (⟨rfl, (str_all (genL_len _ _ _) (genL_lt (by decide) (leF_lt n) i)), fun _ _ FF9 MM9 => then_n ?_⟩))
    refine wp_ret ?_
    repeat first | refine then_ret ?_ | refine inb_ret ?_
    exact (ret_fr FF9 0 Tryz.results43 rfl ⟨rfl, MM9.below⟩)
set_option maxRecDepth 100000 in
theorem pack_some (Ps : List (List Nat)) (hP : ∀ X ∈ Ps, ∀ i, X.getD i 0 < 256) (hl : (packN Ps).length ≤ 140737488355328) (pb off cap T9 : Nat) (fr : Nat × Nat) (cs : Array Value) (hp0 : ∀ j, j < Ps.length → cs[off + j]? = some (sB (Ps.getD j []))) (w0 : World) (hb : w0.heap[pb]? = some (.cells cs T9 fr)) :
    Calls Tryz.prog 71 #[.slice (some ⟨pb, off, none⟩) Ps.length cap] w0 fun e w' => e = .returned (sB (packN Ps)) ∧ Below w0.heap.size w0 w' := by
  have MM := MemS.start1 hb
  refine enter_fr Tryz.func71 rfl Tryz.ntmps71 (by simp) fun ac (FF : Fr 21 ac [(0, .slice (some ⟨pb, off, none⟩) Ps.length cap)]) => ?_
  refine wp_seq (rg_c FF MM [(0, t_ (sB []))] 3 [] [] (⟨(by kernel_rfl), fun _ _ FF1 MM1 => then_n ?_⟩))
  refine wp_seq (rg_c FF1 MM1 [] 4 [] [] (fun bd => fun _ wd2 FF2 MM2 => then_n ?_))
  refine wp_seq ?_
  have MMn := MM2.rowNil 5 1
  have MMo : MemS (fun k => k < w0.heap.size ∧ k ≠ pb) w0 wd2 [(bd, oC #[.pointer none, .slice none (packN (Ps.take 0)).length 0] 118), (pb, .cells cs T9 fr)] [(.slice none (packN (Ps.take 0)).length 0, 5, 1, (packN (Ps.take 0)).length, (bcells (packN (Ps.take 0))))] := MMn
  refine wp_seq (rg_c FF2 MMo [] 9 [] [0] (fun _ _ FF3 MM3 => then_n ?_))
  refine wp_for (fun a' w' => ∃ i : Nat, ∃ p : Value, ∃ q : Option Addr, ∃ c : Nat, i ≤ Ps.length ∧ (p = .pointer none ∨ p = pT bd) ∧ (0 < i ∨ q = none) ∧ Fr 21 a' [(8, iN i), (7, iN Ps.length), (6, .slice (some ⟨pb, off, none⟩) Ps.length cap), (3, pT bd), (2, sB [])] ∧ MemS (fun k => k < w0.heap.size ∧ k ≠ pb) w0 w' [(bd, oC #[p, .slice q (packN (Ps.take i)).length c] 118), (pb, .cells cs T9 fr)] [(.slice q (packN (Ps.take i)).length c, 5, 1, (packN (Ps.take i)).length, (bcells (packN (Ps.take i))))]) (fun a' _ => (Ps.length - cnt 8 a').toNat) ⟨0, .pointer none, none, 0, Nat.zero_le _, .inl rfl, .inr rfl, FF3.pick [0, 1, 2, 3, 4], MM3⟩ ?_
  rintro ac4 wd4 ⟨i, p, q, c, hi, hp, hq, FF4, MM4⟩
  have hc := cnt_of (FF4.get 0 rfl)
  refine rg_c FF4 MM4 [] 9 [9] [] (fun _ _ FF5 MM5 => ?_)
  by_cases hlt : i < Ps.length
  · skip
    refine then_n (.inl ⟨(FF5.ev 0 rfl).trans (dec_t hlt), ?_⟩)
    have hXl := getD_lt hP hlt
    have hpl := packN_len Ps
    have hle := packN_le Ps (i + 1)
    rw [packN_take Ps i hlt] at hle
    simp only [List.length_append, leN_len] at hle
    refine wp_seq (rg_c FF5 MM5 [(1, l_ 1 (sB (Ps.getD i [])))] 9 [] [] (⟨by omega, rfl, (hp0 i hlt), fun _ _ FF6 MM6 => then_n ?_⟩))
    refine wp_seq (wp_region_list ?_)
    refine rp_c 4 FF6 MM6 [(1, t_ (iN ((Ps.getD i []).length))), (0, w_ 1), (0, t_ (sB (leN 4 ((Ps.getD i []).length))))] 9 [15] [] (⟨(vI (bs_size _)), by omega, (callP_of en_lowest (lowest_any ((Ps.getD i []).length) 4 (by omega) (by decide)) _), fun _ _ FF7 MM7 => ?_⟩)
    refine st_callM [5, 8, 7, 6, 3, 2, 16] FF7 (d := 16) en_bwrite rfl rfl (bwrite_any hp (leN_lt _ _) (by rw [leN_len]; omega) _ MM7) rfl (by kernel_rfl) (by decide) fun ac8 wd8 FF8 hr9 => ?_
    obtain ⟨rq10, rc11, MM8⟩ := hr9
    have MM8 : MemS (fun k => k < w0.heap.size ∧ k ≠ pb) w0 wd8 [(bd, oC #[pT bd, .slice rq10 ((packN (Ps.take i)).length + (leN 4 (Ps.getD i []).length).length) rc11] 118), (pb, .cells cs T9 fr)] [(.slice rq10 ((packN (Ps.take i)).length + (leN 4 (Ps.getD i []).length).length) rc11, 5, 1, ((packN (Ps.take i)).length + (leN 4 (Ps.getD i []).length).length), ((bcells (packN (Ps.take i))) ++ bcells (leN 4 (Ps.getD i []).length)))] := MM8
    refine wpl_nil (then_n ?_)
    refine wp_region_list ?_
    refine rp_c 1 FF8 MM8 [] 9 [17] [] (fun _ _ FF12 MM12 => ?_)
    refine st_callM [5, 8, 7, 6, 3, 2, 18] FF12 (d := 18) en_bwrite rfl rfl (bwrite_any (.inr rfl) hXl (by rw [leN_len]; omega) _ MM12) rfl (by kernel_rfl) (by decide) fun ac13 wd13 FF13 hr14 => ?_
    obtain ⟨rq15, rc16, MM13⟩ := hr14
    have MM13 : MemS (fun k => k < w0.heap.size ∧ k ≠ pb) w0 wd13 [(bd, oC #[pT bd, .slice rq15 (((packN (Ps.take i)).length + (leN 4 (Ps.getD i []).length).length) + (Ps.getD i []).length) rc16] 118), (pb, .cells cs T9 fr)] [(.slice rq15 (((packN (Ps.take i)).length + (leN 4 (Ps.getD i []).length).length) + (Ps.getD i []).length) rc16, 5, 1, (((packN (Ps.take i)).length + (leN 4 (Ps.getD i []).length).length) + (Ps.getD i []).length), (((bcells (packN (Ps.take i))) ++ bcells (leN 4 (Ps.getD i []).length)) ++ bcells (Ps.getD i [])))] := MM13
    refine wpl_nil ?_
    refine inb_n (then_n ?_)
    refine rg_c FF13 MM13 [] 9 [] [] (⟨by omega, fun _ _ FF17 MM17 => ?_⟩)
    have hst := packN_take Ps i hlt
    have e1 : (packN (Ps.take i)).length + (leN 4 (Ps.getD i []).length).length + (Ps.getD i []).length = (packN (Ps.take (i + 1))).length := by rw [hst]; simp only [List.length_append]
    have e2 : bcells (packN (Ps.take i)) ++ bcells (leN 4 (Ps.getD i []).length) ++ bcells (Ps.getD i []) = bcells (packN (Ps.take (i + 1))) := by rw [hst, bcells_app, bcells_app]
    rw [e1, e2] at MM17
    have hd := cnt_of (FF17.get 0 rfl)
    refine then_n ⟨⟨i + 1, pT bd, rq15, rc16, by omega, .inr rfl, .inl (Nat.succ_pos _), FF17.pick [0, 2, 3, 4, 5], MM17⟩, ?_⟩
    rw [hc, hd]; omega
  · skip
    refine then_n (.inr ⟨(FF5.ev 0 rfl).trans (dec_f hlt), ?_⟩)
    have hie : i = Ps.length := by omega
    subst hie
    rw [List.take_length] at MM5
    refine then_n ?_
    refine wp_seq (wp_region_list ?_)
    refine st_callM [8, 7, 6, 3, 2, 20] FF5 (d := 20) en_bstring rfl rfl (bstring_any (packN_lt hP) (hq.imp_left fun h => by rw [packN_len]; omega) _ MM5) rfl (by kernel_rfl) (by decide) fun ac18 wd18 FF18 hr19 => ?_
    have MM18 : MemS (fun k => k < w0.heap.size ∧ k ≠ pb) w0 wd18 [(bd, oC #[p, .slice q (packN Ps).length c] 118), (pb, .cells cs T9 fr)] [] := hr19
    refine rp_c 1 FF18 MM18 [] 9 [] [] (fun _ _ FF20 MM20 => ?_)
    refine wpl_nil (then_n ?_)
    refine wp_ret ?_
    repeat first | refine then_ret ?_ | refine inb_ret ?_
    exact (ret_fr FF20 0 Tryz.results71 rfl ⟨rfl, MM20.below1 1 rfl hb⟩)
set_option maxRecDepth 100000 in
theorem pack_none (p : Option Addr) (cap : Nat) (w0 : World) :
    Calls Tryz.prog 71 #[.slice p 0 cap] w0 fun e w' => e = .returned (sB []) ∧ Below w0.heap.size w0 w' := by
  refine enter_fr Tryz.func71 rfl Tryz.ntmps71 (by simp) fun ac (FF : Fr 21 ac [(0, .slice p 0 cap)]) => ?_
  have MM := MemS.start w0
  refine wp_seq (rg_c FF MM [(0, t_ (sB []))] 3 [] [] (⟨(by kernel_rfl), fun _ _ FF1 MM1 => then_n ?_⟩))
  refine wp_seq (rg_c FF1 MM1 [] 4 [] [] (fun bd => fun _ _ FF2 MM2 => then_n ?_))
  refine wp_seq ?_
  have MMn := MM2.rowNil 5 1
  have MMn : MemS _ _ _ _ _ := MMn
  refine wp_seq (rg_c FF2 MMn [] 9 [] [0] (fun _ _ FF3 MM3 => then_n ?_))
  refine wp_for (fun a' w' => Fr 21 a' [(8, iN 0), (7, iN 0), (6, .slice p 0 cap), (3, pT bd), (2, sB [])] ∧ MemS (fun k => k < w0.heap.size) w0 w' [(bd, oC #[.pointer none, .slice none 0 0] 118)] [(.slice none 0 0, 5, 1, 0, (bcells []))]) (fun _ _ => 0) ⟨FF3.pick [0, 1, 2, 3, 4], MM3⟩ ?_
  rintro ac4 wd4 ⟨FF4, MM4⟩
  refine rg_c FF4 MM4 [(0, w_ 3)] 9 [9] [] (⟨by decide, fun _ _ FF5 MM5 => ?_⟩)
  refine then_n (.inr ⟨FF5.ev 0 rfl, ?_⟩)
  refine then_n ?_
  refine wp_seq (wp_region_list ?_)
  refine st_callM [8, 7, 6, 3, 2, 20] FF5 (d := 20) en_bstring rfl rfl (bstring_any nil_lt (.inr rfl) _ MM5) rfl (by kernel_rfl) (by decide) fun ac6 wd6 FF6 hr7 => ?_
  have MM6 : MemS (fun k => k < w0.heap.size) w0 wd6 [(bd, oC #[.pointer none, .slice none 0 0] 118)] [] := hr7
  refine rp_c 1 FF6 MM6 [] 9 [] [] (fun _ _ FF8 MM8 => ?_)
  refine wpl_nil (then_n ?_)
  refine wp_ret ?_
  repeat first | refine then_ret ?_ | refine inb_ret ?_
  exact (ret_fr FF8 0 Tryz.results71 rfl ⟨rfl, MM8.below⟩)
theorem pack_any (Ps : List (List Nat)) (hP : ∀ X ∈ Ps, ∀ i, X.getD i 0 < 256) (hl : (packN Ps).length ≤ 140737488355328) (p : Option Addr) (cap : Nat) (w0 : World) (h : StrsIn w0 p Ps) :
    Calls Tryz.prog 71 #[.slice p Ps.length cap] w0 fun e w' => e = .returned (sB (packN Ps)) ∧ Below w0.heap.size w0 w' := by
  rcases h with rfl | ⟨b, off, cs, T, fr, rfl, hb, hc⟩
  · exact pack_none p cap w0
  · exact pack_some Ps hP hl b off cap T fr cs hc w0 hb
end Go.Proofs.YtdjpacgjhcidpabGreatDoor
namespace Go.Proofs.YtdjpacgjhcidpabGreatDoor
open Go.RowKit
/-- Blocks that are there: each once. -/
theorem add_blk {w : World} {O : Blks} (hD : Distinct O) (H : Has w O) {b : Nat} {ob : Obj} (hb : w.heap[b]? = some ob) : ∃ O' : Blks, Distinct O' ∧ Has w O' ∧ (∀ x ∈ O, x ∈ O') ∧ (b, ob) ∈ O' := by
  by_cases h : ∃ x ∈ O, x.1 = b
  · obtain ⟨x, hx, rfl⟩ := h
    have := Has.mem H hx
    rw [hb] at this
    exact ⟨O, hD, H, fun _ h => h, by rw [Option.some.inj this]; exact hx⟩
  · refine ⟨(b, ob) :: O, ⟨fun y hy e => h ⟨y, hy, e⟩, hD⟩, fun i x hx => ?_, fun x hx => List.mem_cons_of_mem _ hx, by simp⟩
    match i, hx with
    | 0, hx => cases hx; exact hb
    | i + 1, hx => exact H i x (by simpa using hx)
theorem add_strs {w : World} {O : Blks} (hD : Distinct O) (H : Has w O) {p : Option Addr} {Ps : List (List Nat)} (h : StrsIn w p Ps) : ∃ O' : Blks, Distinct O' ∧ Has w O' ∧ (∀ x ∈ O, x ∈ O') ∧ StrsO O' p Ps := by
  rcases h with rfl | ⟨b, off, cs, T, fr, rfl, hb, hc⟩
  · exact ⟨O, hD, H, fun _ h => h, .inl rfl⟩
  · obtain ⟨O', h1, h2, h3, h4⟩ := add_blk hD H hb
    exact ⟨O', h1, h2, h3, .inr ⟨b, off, cs, T, fr, rfl, h4, hc⟩⟩
theorem tabO_of {w : World} {ob : Obj} (hg : w.heap[0]? = some ob) {p : Option Addr} {Ps : List (List Nat)} (h : StrsIn w p Ps) : ∃ O : Blks, Distinct O ∧ Has w O ∧ (0, ob) ∈ O ∧ StrsO O p Ps := by
  obtain ⟨O, h1, h2, _, h4⟩ := add_blk (O := []) trivial (fun i x h => by simp at h) hg
  obtain ⟨O', h1', h2', h3', h4'⟩ := add_strs h1 h2 h
  exact ⟨O', h1', h2', h3' _ h4, h4'⟩
/-- The first sixteen bytes of a key. -/
def idN (X : List Nat) (Ps : List (List Nat)) : List Nat := (shaN (packN [X] ++ packN Ps)).take 16
theorem idN_len (X : List Nat) (Ps : List (List Nat)) : (idN X Ps).length = 16 := by rw [idN, List.length_take, (shaN_bytes _).len]; rfl
theorem idN_lt (X : List Nat) (Ps : List (List Nat)) (i : Nat) : (idN X Ps).getD i 0 < 256 := take_lt (shaN_bytes _).lt i
set_option maxRecDepth 100000 in
theorem key_O (O : Blks) (hD : Distinct O) (Tg : TypeId) (fg : Nat × Nat) (hK : (0, Obj.cells (cn .u32 kTab) Tg fg) ∈ O) (X : List Nat) (hX : ∀ i, X.getD i 0 < 256) (Ps : List (List Nat)) (hP : ∀ X ∈ Ps, ∀ i, X.getD i 0 < 256) (hl : X.length + (packN Ps).length < 100000000) (p : Option Addr) (cap : Nat) (hO : StrsO O p Ps) (w0 : World) (H : Has w0 O) :
    Calls Tryz.prog 45 #[sB X, .slice p Ps.length cap] w0 fun e w' => e = .returned (.agg (cn .u8 (shaN (packN [X] ++ packN Ps)))) ∧ Below w0.heap.size w0 w' := by
  refine enter_fr Tryz.func45 rfl Tryz.ntmps45 (by simp) fun ac (FF : Fr 12 ac [(0, sB X), (1, .slice p Ps.length cap)]) => ?_
  have MM : MemS (fun k => k < w0.heap.size ∧ ∀ x ∈ O, x.1 ≠ k) w0 w0 O [] := MemS.startN H hD
  have hlX : (packN [X]).length = 4 + X.length := by simp [packN_len]
  refine wp_seq (rg_c FF MM [(0, s_ 0 (.cells (cn .u8 (List.replicate 32 0)) 23))] 5 [] [] (⟨(by kernel_rfl), fun bo => fun _ _ FF1 MM1 => then_n ?_⟩))
  refine wp_seq (rg_c FF1 MM1 [(1, s_ 0 (oC #[sB X] 9)), (0, u_ 1 (sB (packN [X]))), (1, u_ 1 (sB (packN Ps))), (0, s_ 0 (oC #[sB (packN [X]), sB (packN Ps)] 9)), (0, u_ 1 (.agg (cn .u8 (shaN ((packN [X]) ++ (packN Ps)))))), (0, b_ 2)] 0 [4] [] (⟨(by kernel_rfl), fun ba => ⟨⟨en_pack, fun w Hw => pack_any [X] (lt1 hX) (by rw [hlX]; omega) (some ⟨ba, 0, none⟩) 1 w (.inr ⟨ba, 0, _, _, _, rfl, Hw 0 _ rfl, (at1s X)⟩)⟩, ⟨en_pack, fun w Hw => pack_any Ps hP (by omega) p cap w (hO.at (Has.tl (Has.tl Hw)))⟩, (by kernel_rfl), fun bb => ⟨⟨en_ssum, fun w Hw => by have h0 := ssum_any Tg fg [packN [X], packN Ps] (lt2 (packN_lt (lt1 hX)) (packN_lt hP)) (by simp) _ 0 2 _ _ _ (at2s (packN [X]) (packN Ps)) (by simp only [flat2, List.length_append, hlX]; omega) w (Has.mem (Has.tl (Has.tl (Has.tl Hw))) hK) (Hw 0 _ rfl); rw [flat2] at h0; exact h0⟩, rfl, ((cn_size _ _).trans (List.length_replicate ..)), ((cn_size _ _).trans (shaN_bytes _).len), (cn_one _ _), rfl, fun _ _ FF2 MM2 => then_n ?_⟩⟩⟩))
  refine wp_ret ?_
  repeat first | refine then_ret ?_ | refine inb_ret ?_
  exact (retc FF2 MM2 (k := 32) (i := 2) (j := 0) Tryz.results45 rfl rfl Tryz.underlying23 rfl (by kernel_rfl) ((cn_size _ _).trans (shaN_bytes _).len) ⟨rfl, MM2.belowN H (fun x hx => List.mem_cons_of_mem _ (List.mem_cons_of_mem _ (List.mem_cons_of_mem _ (hx))))⟩)
theorem key_any (Tg : TypeId) (fg : Nat × Nat) (X : List Nat) (hX : ∀ i, X.getD i 0 < 256) (Ps : List (List Nat)) (hP : ∀ X ∈ Ps, ∀ i, X.getD i 0 < 256) (hl : X.length + (packN Ps).length < 100000000) (p : Option Addr) (cap : Nat) (w0 : World) (h : StrsIn w0 p Ps) (hg : w0.heap[0]? = some (.cells (cn .u32 kTab) Tg fg)) :
    Calls Tryz.prog 45 #[sB X, .slice p Ps.length cap] w0 fun e w' => e = .returned (.agg (cn .u8 (shaN (packN [X] ++ packN Ps)))) ∧ Below w0.heap.size w0 w' := by
  obtain ⟨O, hD, H, hK, hO⟩ := tabO_of hg h
  exact key_O O hD Tg fg hK X hX Ps hP hl p cap hO w0 H
set_option maxRecDepth 100000 in
theorem did_O (O : Blks) (hD : Distinct O) (Tg : TypeId) (fg : Nat × Nat) (hK : (0, Obj.cells (cn .u32 kTab) Tg fg) ∈ O) (X : List Nat) (hX : ∀ i, X.getD i 0 < 256) (Ps : List (List Nat)) (hP : ∀ X ∈ Ps, ∀ i, X.getD i 0 < 256) (hl : X.length + (packN Ps).length < 100000000) (p : Option Addr) (cap : Nat) (hO : StrsO O p Ps) (w0 : World) (H : Has w0 O) :
    Calls Tryz.prog 26 #[sB X, .slice p Ps.length cap] w0 fun e w' => e = .returned (.agg (cn .u8 (idN X Ps))) ∧ Below w0.heap.size w0 w' := by
  refine enter_fr Tryz.func26 rfl Tryz.ntmps26 (by simp) fun ac (FF : Fr 12 ac [(0, sB X), (1, .slice p Ps.length cap)]) => ?_
  have MM : MemS (fun k => k < w0.heap.size ∧ ∀ x ∈ O, x.1 ≠ k) w0 w0 O [] := MemS.startN H hD
  refine wp_seq (rg_c FF MM [(0, s_ 0 (.cells (cn .u8 (List.replicate 16 0)) 32))] 5 [] [] (⟨(by kernel_rfl), fun bo => fun _ _ FF1 MM1 => then_n ?_⟩))
  refine wp_seq (rg_c FF1 MM1 [(2, u_ 1 (.agg (cn .u8 (shaN (packN [X] ++ packN Ps))))), (0, s_ 0 (.cells (cn .u8 (List.replicate 32 0)) 23)), (0, b_ 0)] 0 [4, 5] [] (⟨⟨en_key, fun w Hw => key_any Tg fg X hX Ps hP hl p cap w (hO.at (Has.tl Hw)) (Has.mem (Has.tl Hw) hK)⟩, (by kernel_rfl), fun bk => ⟨rfl, ((cn_size _ _).trans (List.length_replicate ..)), ((cn_size _ _).trans (shaN_bytes _).len), (cn_one _ _), rfl, fun _ _ FF2 MM2 => then_n ?_⟩⟩))
  refine wp_seq (rg_c FF2 MM2 [(2, l_ 0 (.agg (cn .u8 (idN X Ps)))), (0, b_ 1)] 6 [] [] (⟨by decide, by decide, by decide, by decide, rfl, (part_cut (off := 0) (len := 16) (shaN_bytes _).len (by decide)), ((cn_size _ _).trans (idN_len _ _)), rfl, ((cn_size _ _).trans (List.length_replicate ..)), ((cn_size _ _).trans (idN_len _ _)), (cn_one _ _), rfl, fun _ _ FF3 MM3 => then_n ?_⟩))
  refine wp_ret ?_
  repeat first | refine then_ret ?_ | refine inb_ret ?_
  exact (retc FF3 MM3 (k := 16) (i := 1) (j := 1) Tryz.results26 rfl rfl Tryz.underlying32 rfl (by kernel_rfl) ((cn_size _ _).trans (idN_len _ _)) ⟨rfl, MM3.belowN H (fun x hx => List.mem_cons_of_mem _ (List.mem_cons_of_mem _ (hx)))⟩)
theorem did_any (Tg : TypeId) (fg : Nat × Nat) (X : List Nat) (hX : ∀ i, X.getD i 0 < 256) (Ps : List (List Nat)) (hP : ∀ X ∈ Ps, ∀ i, X.getD i 0 < 256) (hl : X.length + (packN Ps).length < 100000000) (p : Option Addr) (cap : Nat) (w0 : World) (h : StrsIn w0 p Ps) (hg : w0.heap[0]? = some (.cells (cn .u32 kTab) Tg fg)) :
    Calls Tryz.prog 26 #[sB X, .slice p Ps.length cap] w0 fun e w' => e = .returned (.agg (cn .u8 (idN X Ps))) ∧ Below w0.heap.size w0 w' := by
  obtain ⟨O, hD, H, hK, hO⟩ := tabO_of hg h
  exact did_O O hD Tg fg hK X hX Ps hP hl p cap hO w0 H
set_option maxRecDepth 100000 in
theorem round_any (n : Nat) (hn : n < 18446744073709551616) (w0 : World) :
    Calls Tryz.prog 27 #[iW n] w0 fun e w' => e = .returned (sB (leN 8 n)) ∧ Below w0.heap.size w0 w' := by
  refine enter_fr Tryz.func27 rfl Tryz.ntmps27 (by simp) fun ac (FF : Fr 5 ac [(0, iW n)]) => ?_
  have MM := MemS.start w0
  refine wp_seq (rg_c FF MM [(0, t_ (sB []))] 3 [] [] (⟨(by kernel_rfl), fun _ _ FF1 MM1 => then_n ?_⟩))
  refine wp_seq (rg_c FF1 MM1 [(1, t_ (sB (leN 8 n)))] 0 [2] [] (⟨(callP_of en_lowest (lowest_any n 8 (by have := hn; omega) (by decide)) _), fun _ _ FF2 MM2 => then_n ?_⟩))
  refine wp_ret ?_
  repeat first | refine then_ret ?_ | refine inb_ret ?_
  exact (ret_fr FF2 0 Tryz.results27 rfl ⟨rfl, MM2.below⟩)
def nonN (a r : Nat) : List Nat := leN 4 a ++ leN 8 r
theorem nonN_len (a r : Nat) : (nonN a r).length = 12 := by rw [nonN, List.length_append, leN_len, leN_len]
theorem nonN_lt (a r i : Nat) : (nonN a r).getD i 0 < 256 := app_lt (leN_lt 4 a) (leN_lt 8 r) i
set_option maxRecDepth 100000 in
theorem nonce_any (a r : Nat) (ha : a < 4294967296) (hr : r < 18446744073709551616) (w0 : World) :
    Calls Tryz.prog 20 #[.int .u32 (a : Nat), iW r] w0 fun e w' => e = .returned (.agg (cn .u8 (nonN a r))) ∧ Below w0.heap.size w0 w' := by
  refine enter_fr Tryz.func20 rfl Tryz.ntmps20 (by simp) fun ac (FF : Fr 14 ac [(0, .int .u32 (a : Nat)), (1, iW r)]) => ?_
  have MM := MemS.start w0
  refine wp_seq (rg_c FF MM [(0, s_ 0 (.cells (cn .u8 (List.replicate 12 0)) 56))] 5 [] [] (⟨(by kernel_rfl), fun bo => fun _ _ FF1 MM1 => then_n ?_⟩))
  refine wp_seq (wp_region_list ?_)
  refine rp_c 6 FF1 MM1 [(1, w_ 1), (0, t_ (sB (leN 4 a))), (1, t_ (sB (leN 8 r))), (0, t_ (sB (nonN a r)))] 0 [4, 10] [] (⟨(by have := ha; omega), (callP_of en_lowest (lowest_any a 4 (by have := ha; omega) (by decide)) _), (callP_of en_round (round_any r (by have := hr; omega)) _), (by simp only [bs_size, leN_len]; decide), (vS2 (bs_app _ _)), fun _ _ FF2 MM2 => ?_⟩)
  refine st_new [4, 11] FF2 MM2 (d := 11) (bytes_ok (e := 5) (x := (.tmp 10)) (by kernel_rfl) rfl (nonN_lt _ _) Tryz.underlying9 Tryz.underlying59 Tryz.underlying5) rfl rfl (by decide) fun ac4 wd4 b1 cz3 FF4 MM4 => ?_
  refine rp_c 3 FF4 MM4 [(1, l_ 0 (.agg (cn .u8 (nonN a r)))), (0, b_ 1)] 5 [] [] (⟨(by rw [nonN_len]; decide), rfl, (part_rep _ _), ((cn_size _ _).trans (nonN_len _ _)), rfl, ((cn_size _ _).trans (List.length_replicate ..)), ((cn_size _ _).trans (nonN_len _ _)), (cn_one _ _), rfl, fun _ _ FF5 MM5 => ?_⟩)
  refine wpl_nil (then_n ?_)
  refine wp_ret ?_
  repeat first | refine then_ret ?_ | refine inb_ret ?_
  exact (retc FF5 MM5 (k := 12) (i := 1) (j := 0) Tryz.results20 rfl rfl Tryz.underlying56 rfl (by kernel_rfl) ((cn_size _ _).trans (nonN_len _ _)) ⟨rfl, MM5.below⟩)
end Go.Proofs.YtdjpacgjhcidpabGreatDoor
namespace Go.Proofs.YtdjpacgjhcidpabGreatDoor
open Go.RowKit
def fw0 (n : Nat) : Nat := n % 18446744073709551616
def fw1 (n : Nat) : Nat := n / 18446744073709551616 % 18446744073709551616
def fw2 (n : Nat) : Nat := n / 18446744073709551616 / 18446744073709551616 % 18446744073709551616
def fw3 (n : Nat) : Nat := n / 18446744073709551616 / 18446744073709551616 / 18446744073709551616 % 18446744073709551616
def top4 : Nat := 115792089237316195423570985008687907853269984665640564039457584007913129639936
def pN : Nat := 57896044618658097711785492504343953926634992332820282019728792003956564819949
def b255 : Nat := 57896044618658097711785492504343953926634992332820282019728792003956564819968
def sumLo (x y c : Nat) : Nat := (x + y + c) % 18446744073709551616
def sumHi (x y c : Nat) : Nat := (x + y + c) / 18446744073709551616
def subLo (x y b : Nat) : Nat := (x + 18446744073709551616 - y - b) % 18446744073709551616
def subHi (x y b : Nat) : Nat := if x < y + b then 1 else 0
def maHi (n m s t : Nat) : Nat := (n * m + s + t) / 18446744073709551616
def maLo (n m s t : Nat) : Nat := (n * m + s + t) % 18446744073709551616
def mk4 (a b c d : Nat) : Nat := a + 18446744073709551616 * b + 340282366920938463463374607431768211456 * c + 6277101735386680763835789423207666416102355444464034512896 * d
theorem fw0_lt (n : Nat) : fw0 n < 18446744073709551616 := Nat.mod_lt _ (by decide)
theorem fw1_lt (n : Nat) : fw1 n < 18446744073709551616 := Nat.mod_lt _ (by decide)
theorem fw2_lt (n : Nat) : fw2 n < 18446744073709551616 := Nat.mod_lt _ (by decide)
theorem fw3_lt (n : Nat) : fw3 n < 18446744073709551616 := Nat.mod_lt _ (by decide)
/-- Four words make up their number. -/
theorem mk4_w (n : Nat) (h : n < top4) : mk4 (fw0 n) (fw1 n) (fw2 n) (fw3 n) = n := by
  unfold mk4 fw0 fw1 fw2 fw3 top4 at *; omega
theorem mk4_lt {a b c d : Nat} (ha : a < 18446744073709551616) (hb : b < 18446744073709551616) (hc : c < 18446744073709551616) (hd : d < 18446744073709551616) : mk4 a b c d < top4 := by
  unfold mk4 top4; omega
theorem w_mk4 {a b c d : Nat} (ha : a < 18446744073709551616) (hb : b < 18446744073709551616) (hc : c < 18446744073709551616) (hd : d < 18446744073709551616) :
    fw0 (mk4 a b c d) = a ∧ fw1 (mk4 a b c d) = b ∧ fw2 (mk4 a b c d) = c ∧ fw3 (mk4 a b c d) = d := by
  unfold mk4 fw0 fw1 fw2 fw3; omega
theorem sumHi_le {x y c : Nat} (hx : x < 18446744073709551616) (hy : y < 18446744073709551616) (hc : c ≤ 1) : sumHi x y c ≤ 1 := by unfold sumHi; omega
theorem subHi_le (x y c : Nat) : subHi x y c ≤ 1 := by unfold subHi; split <;> omega
theorem plus_words (x y : Nat) :
    sumLo (fw0 x) (fw0 y) 0 = fw0 (x + y) ∧ sumLo (fw1 x) (fw1 y) (sumHi (fw0 x) (fw0 y) 0) = fw1 (x + y) ∧
    sumLo (fw2 x) (fw2 y) (sumHi (fw1 x) (fw1 y) (sumHi (fw0 x) (fw0 y) 0)) = fw2 (x + y) ∧
    sumLo (fw3 x) (fw3 y) (sumHi (fw2 x) (fw2 y) (sumHi (fw1 x) (fw1 y) (sumHi (fw0 x) (fw0 y) 0))) = fw3 (x + y) := by
  unfold sumLo sumHi fw0 fw1 fw2 fw3; omega
theorem opp_words (x : Nat) (h : x ≤ pN) :
    subLo 18446744073709551597 (fw0 x) 0 = fw0 (pN - x) ∧ subLo 18446744073709551615 (fw1 x) (subHi 18446744073709551597 (fw0 x) 0) = fw1 (pN - x) ∧
    subLo 18446744073709551615 (fw2 x) (subHi 18446744073709551615 (fw1 x) (subHi 18446744073709551597 (fw0 x) 0)) = fw2 (pN - x) ∧
    subLo 9223372036854775807 (fw3 x) (subHi 18446744073709551615 (fw2 x) (subHi 18446744073709551615 (fw1 x) (subHi 18446744073709551597 (fw0 x) 0))) = fw3 (pN - x) := by
  unfold subLo subHi fw0 fw1 fw2 fw3 pN at *
  refine ⟨by omega, ?_, ?_, ?_⟩ <;> (repeat' split) <;> omega
theorem ma_lt {n m s t : Nat} (hn : n < 18446744073709551616) (hm : m < 18446744073709551616) (hs : s < 18446744073709551616) (ht : t < 18446744073709551616) :
    n * m + s + t < 340282366920938463463374607431768211456 := by
  have : n * m ≤ 18446744073709551615 * 18446744073709551615 := Nat.mul_le_mul (by omega) (by omega)
  omega
theorem maHi_lt {n m s t : Nat} (hn : n < 18446744073709551616) (hm : m < 18446744073709551616) (hs : s < 18446744073709551616) (ht : t < 18446744073709551616) : maHi n m s t < 18446744073709551616 := by
  have := ma_lt hn hm hs ht
  unfold maHi; omega
/-- n x + s, word by word. -/
theorem times_words (n x s : Nat) (hx : x < top4) :
    maLo n (fw0 x) (fw0 s) 0 = fw0 (n * x + s) ∧ maLo n (fw1 x) (fw1 s) (maHi n (fw0 x) (fw0 s) 0) = fw1 (n * x + s) ∧
    maLo n (fw2 x) (fw2 s) (maHi n (fw1 x) (fw1 s) (maHi n (fw0 x) (fw0 s) 0)) = fw2 (n * x + s) ∧
    maLo n (fw3 x) (fw3 s) (maHi n (fw2 x) (fw2 s) (maHi n (fw1 x) (fw1 s) (maHi n (fw0 x) (fw0 s) 0))) = fw3 (n * x + s) ∧
    (s < top4 → maHi n (fw3 x) (fw3 s) (maHi n (fw2 x) (fw2 s) (maHi n (fw1 x) (fw1 s) (maHi n (fw0 x) (fw0 s) 0))) = (n * x + s) / top4) := by
  have e : n * x = n * fw0 x + 18446744073709551616 * (n * fw1 x) + 340282366920938463463374607431768211456 * (n * fw2 x) + 6277101735386680763835789423207666416102355444464034512896 * (n * fw3 x) := by
    have h := mk4_w x hx
    unfold mk4 at h
    have h2 : n * x = n * (fw0 x + 18446744073709551616 * fw1 x + 340282366920938463463374607431768211456 * fw2 x + 6277101735386680763835789423207666416102355444464034512896 * fw3 x) := by rw [h]
    rw [h2, Nat.mul_add, Nat.mul_add, Nat.mul_add, Nat.mul_left_comm, Nat.mul_left_comm n 340282366920938463463374607431768211456, Nat.mul_left_comm n 6277101735386680763835789423207666416102355444464034512896]
  rw [e]
  unfold maLo maHi
  generalize n * fw0 x = a
  generalize n * fw1 x = b
  generalize n * fw2 x = c
  generalize n * fw3 x = d
  clear e hx
  unfold fw0 fw1 fw2 fw3 top4
  refine ⟨by omega, by omega, by omega, by omega, fun _ => by omega⟩
/-- The words of a number that is cut from its lowest word on. -/
theorem shift_words (n : Nat) : fw0 (n / 18446744073709551616) = fw1 n ∧ fw1 (n / 18446744073709551616) = fw2 n ∧ fw2 (n / 18446744073709551616) = fw3 n := by
  unfold fw0 fw1 fw2 fw3; omega
theorem shift_top (n : Nat) (h : n < 2135987035920910082395021706169552114602704522356652769947041607822219725780640550022962086936576) : fw3 (n / 18446744073709551616) = n / top4 := by
  unfold fw3 top4; omega
def ov (x t : Nat) : Nat := 2 * t + fw3 x / 9223372036854775808
def mid (x t : Nat) : Nat := x % b255 + 19 * ov x t
def red (x t : Nat) : Nat := (x + top4 * t) % pN
theorem ov_le {x t : Nat} (ht : t ≤ 38) : ov x t ≤ 77 := by have := fw3_lt x; unfold ov; omega
theorem cut_words (x : Nat) : fw0 (x % b255) = fw0 x ∧ fw1 (x % b255) = fw1 x ∧ fw2 (x % b255) = fw2 x ∧ fw3 (x % b255) = fw3 x % 9223372036854775808 := by
  have e : b255 = 18446744073709551616 * (18446744073709551616 * (18446744073709551616 * 9223372036854775808)) := by decide
  have h1 : x % b255 % 18446744073709551616 = x % 18446744073709551616 := by rw [e]; exact Nat.mod_mul_right_mod x _ _
  have h2 : x % b255 / 18446744073709551616 = x / 18446744073709551616 % (18446744073709551616 * (18446744073709551616 * 9223372036854775808)) := by
    rw [e]; exact Nat.mod_mul_right_div_self x _ _
  unfold fw0 fw1 fw2 fw3
  rw [h2]
  generalize x / 18446744073709551616 = y
  refine ⟨h1, Nat.mod_mul_right_mod y _ _, ?_, ?_⟩
  · rw [Nat.mod_mul_right_div_self]; exact Nat.mod_mul_right_mod _ _ _
  · rw [Nat.mod_mul_right_div_self, Nat.mod_mul_right_div_self]; omega
theorem small_words (n : Nat) (h : n < 18446744073709551616) : fw0 n = n ∧ fw1 n = 0 ∧ fw2 n = 0 ∧ fw3 n = 0 := by
  unfold fw0 fw1 fw2 fw3; omega
theorem fw3_half (n : Nat) (h : n < top4) : fw3 n / 9223372036854775808 = n / b255 := by
  unfold fw3 top4 b255 at *; omega
theorem mid_lt {x t : Nat} (ht : t ≤ 38) : mid x t < b255 + 1464 := by
  have := ov_le (x := x) ht
  have h2 : x % b255 < b255 := Nat.mod_lt _ (by decide)
  unfold mid; omega
theorem red_mid {x t : Nat} (hx : x < top4) : red x t = mid x t % pN := by
  have h2 := fw3_half x hx
  have h3 : x % b255 + b255 * (x / b255) = x := Nat.mod_add_div _ _
  have e : x + top4 * t = mid x t + pN * ov x t := by
    unfold mid ov
    rw [h2]
    generalize x % b255 = r at *
    generalize x / b255 = q at *
    subst h3
    unfold top4 pN b255
    omega
  unfold red
  rw [e, Nat.add_mul_mod_self_left]
/-- The last subtraction: below p it is what came; from p on it is that less p. -/
theorem settle_lo {x t : Nat} (hx : x < top4) (ht : t ≤ 38) (h : fw3 (mid x t + 19) / 9223372036854775808 = 0) : mid x t = red x t := by
  have h1 := mid_lt (x := x) ht
  rw [red_mid hx]
  rw [fw3_half _ (by unfold top4 b255 at *; omega)] at h
  generalize mid x t = m at *
  unfold b255 pN at *
  omega
theorem settle_hi {x t : Nat} (hx : x < top4) (ht : t ≤ 38) (h : ¬ fw3 (mid x t + 19) / 9223372036854775808 = 0) : (mid x t + 19) % b255 = red x t ∧ fw3 (mid x t + 19) / 9223372036854775808 = 1 := by
  have h1 := mid_lt (x := x) ht
  rw [red_mid hx]
  rw [fw3_half _ (by unfold top4 b255 at *; omega)] at *
  generalize mid x t = m at *
  unfold b255 pN at *
  omega
def S1 (x y : Nat) : Nat := fw0 x * y + 0
def S2 (x y : Nat) : Nat := fw1 x * y + S1 x y / 18446744073709551616
def S3 (x y : Nat) : Nat := fw2 x * y + S2 x y / 18446744073709551616
def S4 (x y : Nat) : Nat := fw3 x * y + S3 x y / 18446744073709551616
def lowN (x y : Nat) : Nat := mk4 (fw0 (S1 x y)) (fw0 (S2 x y)) (fw0 (S3 x y)) (fw0 (S4 x y))
theorem word_mul_le {a y : Nat} (ha : a < 18446744073709551616) (hy : y < top4) : a * y ≤ 18446744073709551615 * (top4 - 1) := Nat.mul_le_mul (by omega) (by omega)
theorem S_lt (x : Nat) {y : Nat} (hy : y < top4) : S1 x y / 18446744073709551616 < top4 ∧ S2 x y / 18446744073709551616 < top4 ∧ S3 x y / 18446744073709551616 < top4 ∧ S4 x y / 18446744073709551616 < top4 := by
  have a0 := word_mul_le (fw0_lt x) hy
  have a1 := word_mul_le (fw1_lt x) hy
  have a2 := word_mul_le (fw2_lt x) hy
  have a3 := word_mul_le (fw3_lt x) hy
  unfold S4 S3 S2 S1
  unfold top4 at *
  omega
theorem S_small (x : Nat) {y : Nat} (hy : y < top4) : S1 x y < 2135987035920910082395021706169552114602704522356652769947041607822219725780640550022962086936576 ∧ S2 x y < 2135987035920910082395021706169552114602704522356652769947041607822219725780640550022962086936576 ∧ S3 x y < 2135987035920910082395021706169552114602704522356652769947041607822219725780640550022962086936576 ∧ S4 x y < 2135987035920910082395021706169552114602704522356652769947041607822219725780640550022962086936576 := by
  have h := S_lt x hy
  unfold top4 at h
  omega
theorem lowN_lt (x y : Nat) : lowN x y < top4 := mk4_lt (fw0_lt _) (fw0_lt _) (fw0_lt _) (fw0_lt _)
theorem prod_eq (x y : Nat) (hx : x < top4) : x * y = lowN x y + top4 * (S4 x y / 18446744073709551616) := by
  have e : x * y = fw0 x * y + 18446744073709551616 * (fw1 x * y) + 340282366920938463463374607431768211456 * (fw2 x * y) + 6277101735386680763835789423207666416102355444464034512896 * (fw3 x * y) := by
    have h := mk4_w x hx
    unfold mk4 at h
    have h2 : x * y = (fw0 x + 18446744073709551616 * fw1 x + 340282366920938463463374607431768211456 * fw2 x + 6277101735386680763835789423207666416102355444464034512896 * fw3 x) * y := by rw [h]
    rw [h2, Nat.add_mul, Nat.add_mul, Nat.add_mul, Nat.mul_assoc, Nat.mul_assoc 340282366920938463463374607431768211456, Nat.mul_assoc 6277101735386680763835789423207666416102355444464034512896]
  rw [e]
  unfold lowN mk4 S4 S3 S2 S1
  generalize fw0 x * y = a
  generalize fw1 x * y = b
  generalize fw2 x * y = c
  generalize fw3 x * y = d
  unfold fw0 top4
  omega
/-- The product, its upper half counted 38 times, is the product modulo p. -/
theorem prod_red (x y : Nat) (hx : x < top4) (hy : y < top4) :
    (38 * (S4 x y / 18446744073709551616) + lowN x y) / top4 ≤ 38 ∧
    red ((38 * (S4 x y / 18446744073709551616) + lowN x y) % top4) ((38 * (S4 x y / 18446744073709551616) + lowN x y) / top4) = x * y % pN := by
  have h1 := prod_eq x y hx
  have h2 := (S_lt x hy).2.2.2
  have h3 := lowN_lt x y
  rw [h1]
  generalize S4 x y / 18446744073709551616 = H at *
  generalize lowN x y = L at *
  unfold red
  clear h1 hx hy
  have e : top4 = 2 * pN + 38 := by decide
  refine ⟨by unfold top4 at *; omega, ?_⟩
  have e2 : (38 * H + L) % top4 + top4 * ((38 * H + L) / top4) = 38 * H + L := Nat.mod_add_div _ _
  rw [e2]
  have e3 : L + top4 * H = (38 * H + L) + pN * (2 * H) := by rw [e, Nat.add_mul, ← Nat.mul_assoc pN 2 H, Nat.mul_comm pN 2]; omega
  rw [e3, Nat.add_mul_mod_self_left]
end Go.Proofs.YtdjpacgjhcidpabGreatDoor
namespace Go.Proofs.YtdjpacgjhcidpabGreatDoor
open Go.RowKit
theorem en_mul64 : Enters Tryz.prog 79 := fun args w => by simp [go_sem]
theorem en_fplus : Enters Tryz.prog 98 := fun args w => by simp [go_sem]
theorem en_fopp : Enters Tryz.prog 100 := fun args w => by simp [go_sem]
theorem en_fma : Enters Tryz.prog 115 := fun args w => by simp [go_sem]
theorem en_ftimes : Enters Tryz.prog 101 := fun args w => by simp [go_sem]
theorem en_fprod : Enters Tryz.prog 77 := fun args w => by simp [go_sem]
theorem en_fsettle : Enters Tryz.prog 73 := fun args w => by simp [go_sem]
theorem en_fchoose : Enters Tryz.prog 99 := fun args w => by simp [go_sem]
theorem en_fOf : Enters Tryz.prog 47 := fun args w => by simp [go_sem]
theorem en_fword : Enters Tryz.prog 72 := fun args w => by simp [go_sem]
theorem en_fNum : Enters Tryz.prog 48 := fun args w => by simp [go_sem]
theorem en_fKey : Enters Tryz.prog 53 := fun args w => by simp [go_sem]
theorem en_fAdd : Enters Tryz.prog 75 := fun args w => by simp [go_sem]
theorem en_fSub : Enters Tryz.prog 76 := fun args w => by simp [go_sem]
theorem en_fMul : Enters Tryz.prog 51 := fun args w => by simp [go_sem]
theorem en_fInv : Enters Tryz.prog 52 := fun args w => by simp [go_sem]
theorem en_fPick : Enters Tryz.prog 74 := fun args w => by simp [go_sem]
theorem runV_as {P : Program} {l : Slots} {L : Blks} {o : Oper} {v v' : Value} (e : v = v') (h : RunV P l L o v) : RunV P l L o v' := e ▸ h
theorem tup_uu {a a' b b' : Nat} (h1 : a = a') (h2 : b = b') : Value.tuple #[iW a, iW b] = Value.tuple #[iW a', iW b'] := by rw [h1, h2]
theorem lt_of_eq_lt {a b c : Nat} (h1 : a = b) (h2 : b < c) : a < c := h1 ▸ h2
set_option maxRecDepth 100000 in
theorem fplus_any (x y : Nat) (w0 : World) :
    Calls Tryz.prog 98 #[.agg #[iW (fw0 x), iW (fw1 x), iW (fw2 x), iW (fw3 x)], .agg #[iW (fw0 y), iW (fw1 y), iW (fw2 y), iW (fw3 y)]] w0 fun e w' => e = .returned (.agg #[iW (fw0 (x + y)), iW (fw1 (x + y)), iW (fw2 (x + y)), iW (fw3 (x + y))]) ∧ Below w0.heap.size w0 w' := by
  refine enter_fr Tryz.func98 rfl Tryz.ntmps98 (by simp) fun ac (FF : Fr 46 ac [(0, aG #[iW (fw0 x), iW (fw1 x), iW (fw2 x), iW (fw3 x)]), (1, aG #[iW (fw0 y), iW (fw1 y), iW (fw2 y), iW (fw3 y)])]) => ?_
  have MM := MemS.start w0
  obtain ⟨p0, p1, p2, p3⟩ := plus_words x y
  obtain ⟨c1, e1⟩ : ∃ z, sumHi (fw0 x) (fw0 y) 0 = z := ⟨_, rfl⟩
  rw [e1] at p1 p2 p3
  have h1 : c1 ≤ 1 := e1 ▸ sumHi_le (fw0_lt x) (fw0_lt y) (by decide)
  obtain ⟨c2, e2⟩ : ∃ z, sumHi (fw1 x) (fw1 y) c1 = z := ⟨_, rfl⟩
  rw [e2] at p2 p3
  have h2 : c2 ≤ 1 := e2 ▸ sumHi_le (fw1_lt x) (fw1_lt y) h1
  obtain ⟨c3, e3⟩ : ∃ z, sumHi (fw2 x) (fw2 y) c2 = z := ⟨_, rfl⟩
  rw [e3] at p3
  have h3 : c3 ≤ 1 := e3 ▸ sumHi_le (fw2_lt x) (fw2_lt y) h2
  obtain ⟨c4, e4⟩ : ∃ z, sumHi (fw3 x) (fw3 y) c3 = z := ⟨_, rfl⟩
  have h4 : c4 ≤ 1 := e4 ▸ sumHi_le (fw3_lt x) (fw3_lt y) h3
  refine wp_seq (rg_c FF MM [] 5 [] [0, 1] (fun bx => fun by_ => fun br => fun _ _ FF1 MM1 => then_n ?_))
  refine wp_seq (rg_c FF1 MM1 [] 6 [] [] (fun _ _ FF2 MM2 => then_n ?_))
  refine wp_seq (rg_c FF2 MM2 [(1, l_ 2 (iW (fw0 x))), (1, l_ 1 (iW (fw0 y))), (0, f_ (.tuple #[iW (fw0 (x + y)), iW c1])), (4, s_ 2 (oC #[iW (fw0 (x + y)), iW (fw1 x), iW (fw2 x), iW (fw3 x)] 95))] 6 [] [] (⟨rfl, rfl, rfl, rfl, (runV_as (tup_uu p0 e1) (add64_ok (f := 107) (ts := #[24, 24, 24]) (x := (.tmp 8)) (y := (.tmp 10)) (z := (.const (iW 0))) (a := fw0 x) (b := fw0 y) (c := 0) (by omega) (by kernel_rfl) rfl rfl rfl Tryz.func107 (by kernel_rfl) (by kernel_rfl) (by kernel_rfl) (by kernel_rfl))), rfl, (by simp), (.inl rfl), rfl, fun _ _ FF3 MM3 => then_n ?_⟩))
  refine wp_seq (rg_c FF3 MM3 [(1, l_ 2 (iW (fw1 x))), (1, l_ 1 (iW (fw1 y))), (1, f_ (.tuple #[iW (fw1 (x + y)), iW c2])), (4, s_ 2 (oC #[iW (fw0 (x + y)), iW (fw1 (x + y)), iW (fw2 x), iW (fw3 x)] 95))] 6 [] [] (⟨rfl, rfl, rfl, rfl, (runV_as (tup_uu p1 e2) (add64_ok (f := 107) (ts := #[24, 24, 24]) (x := (.tmp 17)) (y := (.tmp 19)) (z := (.tmp 20)) (a := fw1 x) (b := fw1 y) (c := c1) (by omega) (by kernel_rfl) rfl rfl rfl Tryz.func107 (by kernel_rfl) (by kernel_rfl) (by kernel_rfl) (by kernel_rfl))), rfl, (by simp), (.inl rfl), rfl, fun _ _ FF4 MM4 => then_n ?_⟩))
  refine wp_seq (rg_c FF4 MM4 [(1, l_ 2 (iW (fw2 x))), (1, l_ 1 (iW (fw2 y))), (1, f_ (.tuple #[iW (fw2 (x + y)), iW c3])), (4, s_ 2 (oC #[iW (fw0 (x + y)), iW (fw1 (x + y)), iW (fw2 (x + y)), iW (fw3 x)] 95))] 6 [] [] (⟨rfl, rfl, rfl, rfl, (runV_as (tup_uu p2 e3) (add64_ok (f := 107) (ts := #[24, 24, 24]) (x := (.tmp 27)) (y := (.tmp 29)) (z := (.tmp 30)) (a := fw2 x) (b := fw2 y) (c := c2) (by omega) (by kernel_rfl) rfl rfl rfl Tryz.func107 (by kernel_rfl) (by kernel_rfl) (by kernel_rfl) (by kernel_rfl))), rfl, (by simp), (.inl rfl), rfl, fun _ _ FF5 MM5 => then_n ?_⟩))
  refine wp_seq (rg_c FF5 MM5 [(1, l_ 2 (iW (fw3 x))), (1, l_ 1 (iW (fw3 y))), (1, f_ (.tuple #[iW (fw3 (x + y)), iW c4])), (4, s_ 2 (oC #[iW (fw0 (x + y)), iW (fw1 (x + y)), iW (fw2 (x + y)), iW (fw3 (x + y))] 95))] 6 [] [] (⟨rfl, rfl, rfl, rfl, (runV_as (tup_uu p3 e4) (add64_ok (f := 107) (ts := #[24, 24, 24]) (x := (.tmp 37)) (y := (.tmp 39)) (z := (.tmp 40)) (a := fw3 x) (b := fw3 y) (c := c3) (by omega) (by kernel_rfl) rfl rfl rfl Tryz.func107 (by kernel_rfl) (by kernel_rfl) (by kernel_rfl) (by kernel_rfl))), rfl, (by simp), (.inl rfl), rfl, fun _ _ FF6 MM6 => then_n ?_⟩))
  refine wp_seq (rg_c FF6 MM6 [(0, b_ 2), (0, b_ 0)] 6 [] [] (⟨rfl, rfl, rfl, rfl, rfl, (by kernel_rfl), rfl, fun _ _ FF7 MM7 => then_n ?_⟩))
  refine wp_ret ?_
  repeat first | refine then_ret ?_ | refine inb_ret ?_
  exact (retc FF7 MM7 (k := 4) (i := 0) (j := 1) Tryz.results98 rfl rfl Tryz.underlying95 rfl (by kernel_rfl) rfl ⟨rfl, MM7.below⟩)
set_option maxRecDepth 100000 in
theorem fopp_any (x : Nat) (hx : x ≤ pN) (w0 : World) :
    Calls Tryz.prog 100 #[.agg #[iW (fw0 x), iW (fw1 x), iW (fw2 x), iW (fw3 x)]] w0 fun e w' => e = .returned (.agg #[iW (fw0 (pN - x)), iW (fw1 (pN - x)), iW (fw2 (pN - x)), iW (fw3 (pN - x))]) ∧ Below w0.heap.size w0 w' := by
  refine enter_fr Tryz.func100 rfl Tryz.ntmps100 (by simp) fun ac (FF : Fr 36 ac [(0, aG #[iW (fw0 x), iW (fw1 x), iW (fw2 x), iW (fw3 x)])]) => ?_
  have MM := MemS.start w0
  obtain ⟨p0, p1, p2, p3⟩ := opp_words x hx
  obtain ⟨c1, e1⟩ : ∃ z, subHi 18446744073709551597 (fw0 x) 0 = z := ⟨_, rfl⟩
  rw [e1] at p1 p2 p3
  have h1 : c1 ≤ 1 := e1 ▸ subHi_le _ _ _
  obtain ⟨c2, e2⟩ : ∃ z, subHi 18446744073709551615 (fw1 x) c1 = z := ⟨_, rfl⟩
  rw [e2] at p2 p3
  have h2 : c2 ≤ 1 := e2 ▸ subHi_le _ _ _
  obtain ⟨c3, e3⟩ : ∃ z, subHi 18446744073709551615 (fw2 x) c2 = z := ⟨_, rfl⟩
  rw [e3] at p3
  have h3 : c3 ≤ 1 := e3 ▸ subHi_le _ _ _
  obtain ⟨c4, e4⟩ : ∃ z, subHi 9223372036854775807 (fw3 x) c3 = z := ⟨_, rfl⟩
  have h4 : c4 ≤ 1 := e4 ▸ subHi_le _ _ _
  refine wp_seq (rg_c FF MM [] 3 [] [0] (fun bx => fun br => fun _ _ FF1 MM1 => then_n ?_))
  refine wp_seq (rg_c FF1 MM1 [] 4 [] [] (fun _ _ FF2 MM2 => then_n ?_))
  refine wp_seq (rg_c FF2 MM2 [(1, l_ 1 (iW (fw0 x))), (0, f_ (.tuple #[iW (fw0 (pN - x)), iW c1])), (4, s_ 1 (oC #[iW (fw0 (pN - x)), iW (fw1 x), iW (fw2 x), iW (fw3 x)] 95))] 4 [] [] (⟨rfl, rfl, (runV_as (tup_uu p0 e1) (sub64_ok (f := 114) (ts := #[24, 24, 24]) (x := (.const (iW 18446744073709551597))) (y := (.tmp 6)) (z := (.const (iW 0))) (a := 18446744073709551597) (b := fw0 x) (c := 0) (by omega) (by kernel_rfl) rfl rfl rfl Tryz.func114 (by kernel_rfl) (by kernel_rfl) (by kernel_rfl) (by kernel_rfl))), rfl, (by simp), (.inl rfl), rfl, fun _ _ FF3 MM3 => then_n ?_⟩))
  refine wp_seq (rg_c FF3 MM3 [(1, l_ 1 (iW (fw1 x))), (1, f_ (.tuple #[iW (fw1 (pN - x)), iW c2])), (4, s_ 1 (oC #[iW (fw0 (pN - x)), iW (fw1 (pN - x)), iW (fw2 x), iW (fw3 x)] 95))] 4 [] [] (⟨rfl, rfl, (runV_as (tup_uu p1 e2) (sub64_ok (f := 114) (ts := #[24, 24, 24]) (x := (.const (iW 18446744073709551615))) (y := (.tmp 13)) (z := (.tmp 14)) (a := 18446744073709551615) (b := fw1 x) (c := c1) (by omega) (by kernel_rfl) rfl rfl rfl Tryz.func114 (by kernel_rfl) (by kernel_rfl) (by kernel_rfl) (by kernel_rfl))), rfl, (by simp), (.inl rfl), rfl, fun _ _ FF4 MM4 => then_n ?_⟩))
  refine wp_seq (rg_c FF4 MM4 [(1, l_ 1 (iW (fw2 x))), (1, f_ (.tuple #[iW (fw2 (pN - x)), iW c3])), (4, s_ 1 (oC #[iW (fw0 (pN - x)), iW (fw1 (pN - x)), iW (fw2 (pN - x)), iW (fw3 x)] 95))] 4 [] [] (⟨rfl, rfl, (runV_as (tup_uu p2 e3) (sub64_ok (f := 114) (ts := #[24, 24, 24]) (x := (.const (iW 18446744073709551615))) (y := (.tmp 21)) (z := (.tmp 22)) (a := 18446744073709551615) (b := fw2 x) (c := c2) (by omega) (by kernel_rfl) rfl rfl rfl Tryz.func114 (by kernel_rfl) (by kernel_rfl) (by kernel_rfl) (by kernel_rfl))), rfl, (by simp), (.inl rfl), rfl, fun _ _ FF5 MM5 => then_n ?_⟩))
  refine wp_seq (rg_c FF5 MM5 [(1, l_ 1 (iW (fw3 x))), (1, f_ (.tuple #[iW (fw3 (pN - x)), iW c4])), (4, s_ 1 (oC #[iW (fw0 (pN - x)), iW (fw1 (pN - x)), iW (fw2 (pN - x)), iW (fw3 (pN - x))] 95))] 4 [] [] (⟨rfl, rfl, (runV_as (tup_uu p3 e4) (sub64_ok (f := 114) (ts := #[24, 24, 24]) (x := (.const (iW 9223372036854775807))) (y := (.tmp 29)) (z := (.tmp 30)) (a := 9223372036854775807) (b := fw3 x) (c := c3) (by omega) (by kernel_rfl) rfl rfl rfl Tryz.func114 (by kernel_rfl) (by kernel_rfl) (by kernel_rfl) (by kernel_rfl))), rfl, (by simp), (.inl rfl), rfl, fun _ _ FF6 MM6 => then_n ?_⟩))
  refine wp_seq (rg_c FF6 MM6 [(0, b_ 1), (0, b_ 0)] 4 [] [] (⟨rfl, rfl, rfl, rfl, rfl, (by kernel_rfl), rfl, fun _ _ FF7 MM7 => then_n ?_⟩))
  refine wp_ret ?_
  repeat first | refine then_ret ?_ | refine inb_ret ?_
  exact (retc FF7 MM7 (k := 4) (i := 0) (j := 1) Tryz.results100 rfl rfl Tryz.underlying95 rfl (by kernel_rfl) rfl ⟨rfl, MM7.below⟩)
end Go.Proofs.YtdjpacgjhcidpabGreatDoor
namespace Go.Proofs.YtdjpacgjhcidpabGreatDoor
open Go.RowKit
theorem xor_lt64 {a b : Nat} (ha : a < 18446744073709551616) (hb : b < 18446744073709551616) : a ^^^ b < 18446744073709551616 := Nat.xor_lt_two_pow (n := 64) ha hb
theorem and_all {a : Nat} (h : a < 18446744073709551616) : 18446744073709551615 &&& a = a := by
  rw [Nat.and_comm]
  exact (Nat.and_two_pow_sub_one_eq_mod a 64).trans (Nat.mod_eq_of_lt h)
theorem xor_back (a b : Nat) : a ^^^ (a ^^^ b) = b := by rw [← Nat.xor_assoc, Nat.xor_self, Nat.zero_xor]
set_option maxRecDepth 100000 in
theorem mul64_any (x y : Nat) (hx : x < 18446744073709551616) (hy : y < 18446744073709551616) (w0 : World) :
    Calls Tryz.prog 79 #[iW x, iW y] w0 fun e w' => e = .returned (.tuple #[iW (x * y / 18446744073709551616), iW (x * y % 18446744073709551616)]) ∧ Below w0.heap.size w0 w' := by
  refine enter_fr Tryz.func79 rfl Tryz.ntmps79 (by simp) fun ac (FF : Fr 51 ac [(0, iW x), (1, iW y)]) => ?_
  have MM := MemS.start w0
  obtain ⟨g1, g2, g3, g4⟩ := Lib.mul64_hi x y hx hy
  refine wp_seq (rg_c FF MM [] 6 [] [] (fun _ _ FF1 MM1 => then_n ?_))
  refine wp_seq (rg_c FF1 MM1 [(1, t_ (iW (x % 4294967296)))] 7 [] [] (⟨(by have := hx; omega), by decide, (vI (and_low 32 _)), fun _ _ FF2 MM2 => then_n ?_⟩))
  refine wp_seq (rg_c FF2 MM2 [(1, t_ (iW (x / 4294967296)))] 8 [] [] (⟨by decide, rfl, fun _ _ FF3 MM3 => then_n ?_⟩))
  refine wp_seq (rg_c FF3 MM3 [(1, t_ (iW (y % 4294967296)))] 9 [] [] (⟨(by have := hy; omega), by decide, (vI (and_low 32 _)), fun _ _ FF4 MM4 => then_n ?_⟩))
  refine wp_seq (rg_c FF4 MM4 [(1, t_ (iW (y / 4294967296)))] 9 [9] [] (⟨by decide, rfl, fun _ _ FF5 MM5 => then_n ?_⟩))
  refine wp_seq (rg_c FF5 MM5 [(2, w_ 1)] 11 [] [] (⟨g1, fun _ _ FF6 MM6 => then_n ?_⟩))
  refine wp_seq (rg_c FF6 MM6 [(2, w_ 1), (1, t_ (iW (((x % 4294967296) * (y % 4294967296)) / 4294967296))), (0, w_ 1)] 10 [11] [] (⟨(Nat.lt_of_le_of_lt (Nat.le_add_right _ _) g2), by decide, rfl, g2, fun _ _ FF7 MM7 => then_n ?_⟩))
  refine wp_seq (rg_c FF7 MM7 [(1, t_ (iW ((((x / 4294967296) * (y % 4294967296)) + (((x % 4294967296) * (y % 4294967296)) / 4294967296)) % 4294967296)))] 13 [] [] (⟨g2, by decide, (vI (and_low 32 _)), fun _ _ FF8 MM8 => then_n ?_⟩))
  refine wp_seq (rg_c FF8 MM8 [(1, t_ (iW ((((x / 4294967296) * (y % 4294967296)) + (((x % 4294967296) * (y % 4294967296)) / 4294967296)) / 4294967296)))] 14 [] [] (⟨by decide, rfl, fun _ _ FF9 MM9 => then_n ?_⟩))
  refine wp_seq (rg_c FF9 MM9 [(3, w_ 1), (0, w_ 1)] 14 [] [] (⟨(Nat.lt_of_le_of_lt (Nat.le_add_left _ _) g3), g3, fun _ _ FF10 MM10 => then_n ?_⟩))
  have g5 : x * y / 18446744073709551616 < 18446744073709551616 := Nat.div_lt_of_lt_mul (Nat.mul_lt_mul_of_lt_of_lt hx hy)
  refine wp_seq (rg_c FF10 MM10 [(2, w_ 1), (1, w_ 1), (1, t_ (iW ((((((x / 4294967296) * (y % 4294967296)) + (((x % 4294967296) * (y % 4294967296)) / 4294967296)) % 4294967296) + ((x % 4294967296) * (y / 4294967296))) / 4294967296))), (0, u_ 1 (iW (x * y / 18446744073709551616)))] 13 [] [] (⟨(Nat.lt_of_le_of_lt (Nat.le_trans (Nat.le_add_right _ _) (Nat.le_trans (Nat.le_add_right _ _) (Nat.le_of_eq g4))) g5), (Nat.lt_of_le_of_lt (Nat.le_trans (Nat.le_add_right _ _) (Nat.le_of_eq g4)) g5), by decide, rfl, (lt_of_eq_lt g4 g5), (vI g4), fun _ _ FF11 MM11 => then_n ?_⟩))
  refine wp_seq (rg_c FF11 MM11 [] 13 [] [] (fun _ _ FF12 MM12 => then_n ?_))
  refine wp_ret ?_
  repeat first | refine then_ret ?_ | refine inb_ret ?_
  exact (ret_tup2 FF12 1 0 Tryz.results79 rfl rfl ⟨rfl, MM12.below⟩)
set_option maxRecDepth 100000 in
theorem fma_any (n : Nat) (m : Nat) (s : Nat) (t : Nat) (hn : n < 18446744073709551616) (hm : m < 18446744073709551616) (hs : s < 18446744073709551616) (ht : t < 18446744073709551616) (w0 : World) :
    Calls Tryz.prog 115 #[iW n, iW m, iW s, iW t] w0 fun e w' => e = .returned (.tuple #[iW (maHi n m s t), iW (maLo n m s t)]) ∧ Below w0.heap.size w0 w' := by
  refine enter_fr Tryz.func115 rfl Tryz.ntmps115 (by simp) fun ac (FF : Fr 36 ac [(0, iW n), (1, iW m), (2, iW s), (3, iW t)]) => ?_
  have MM := MemS.start w0
  have hnm := ma_lt hn hm hs ht
  refine wp_seq (rg_c FF MM [] 9 [9] [] (fun _ _ FF1 MM1 => then_n ?_))
  refine wp_seq (rg_c FF1 MM1 [(2, t_ (.tuple #[iW (n * m / 18446744073709551616), iW (n * m % 18446744073709551616)]))] 9 [9] [0, 1] (⟨(callP_of en_mul64 (mul64_any n m hn hm) _), fun _ _ FF2 MM2 => then_n ?_⟩))
  refine wp_seq (rg_c FF2 MM2 [(2, f_ (.tuple #[iW (((n * m % 18446744073709551616) + s + 0) % 18446744073709551616), iW (((n * m % 18446744073709551616) + s + 0) / 18446744073709551616)]))] 11 [] [2] (⟨(add64_ok (f := 107) (ts := #[24, 24, 24]) (x := (.tmp 18)) (y := (.tmp 19)) (z := (.const (iW 0))) (a := n * m % 18446744073709551616) (b := s) (c := 0) (by omega) (by kernel_rfl) rfl rfl rfl Tryz.func107 (by kernel_rfl) (by kernel_rfl) (by kernel_rfl) (by kernel_rfl)), fun _ _ FF3 MM3 => then_n ?_⟩))
  refine wp_seq (rg_c FF3 MM3 [(2, w_ 1)] 11 [] [] (⟨by omega, fun _ _ FF4 MM4 => then_n ?_⟩))
  refine wp_seq (rg_c FF4 MM4 [(2, f_ (.tuple #[iW (((((n * m % 18446744073709551616) + s + 0) % 18446744073709551616) + t + 0) % 18446744073709551616), iW (((((n * m % 18446744073709551616) + s + 0) % 18446744073709551616) + t + 0) / 18446744073709551616)]))] 11 [] [3] (⟨(add64_ok (f := 107) (ts := #[24, 24, 24]) (x := (.tmp 27)) (y := (.tmp 28)) (z := (.const (iW 0))) (a := ((n * m % 18446744073709551616) + s + 0) % 18446744073709551616) (b := t) (c := 0) (by omega) (by kernel_rfl) rfl rfl rfl Tryz.func107 (by kernel_rfl) (by kernel_rfl) (by kernel_rfl) (by kernel_rfl)), fun _ _ FF5 MM5 => then_n ?_⟩))
  refine wp_seq (rg_c FF5 MM5 [(2, w_ 1), (1, t_ (iW (maHi n m s t))), (0, t_ (iW (maLo n m s t)))] 11 [] [] (⟨by omega, (vI (by unfold maHi; omega)), (vI (by unfold maLo; omega)), fun _ _ FF6 MM6 => then_n ?_⟩))
  refine wp_ret ?_
  repeat first | refine then_ret ?_ | refine inb_ret ?_
  exact (ret_tup2 FF6 1 0 Tryz.results115 rfl rfl ⟨rfl, MM6.below⟩)
set_option maxRecDepth 100000 in
theorem ftimes_any (n x s : Nat) (hn : n < 18446744073709551616) (hx : x < top4) (hs : s < top4) (w0 : World) :
    Calls Tryz.prog 101 #[iW n, .agg #[iW (fw0 x), iW (fw1 x), iW (fw2 x), iW (fw3 x)], .agg #[iW (fw0 s), iW (fw1 s), iW (fw2 s), iW (fw3 s)]] w0 fun e w' => e = .returned (.tuple #[.agg #[iW (fw0 (n * x + s)), iW (fw1 (n * x + s)), iW (fw2 (n * x + s)), iW (fw3 (n * x + s))], iW ((n * x + s) / top4)]) ∧ Below w0.heap.size w0 w' := by
  refine enter_fr Tryz.func101 rfl Tryz.ntmps101 (by simp) fun ac (FF : Fr 54 ac [(0, iW n), (1, aG #[iW (fw0 x), iW (fw1 x), iW (fw2 x), iW (fw3 x)]), (2, aG #[iW (fw0 s), iW (fw1 s), iW (fw2 s), iW (fw3 s)])]) => ?_
  have MM := MemS.start w0
  obtain ⟨p0, p1, p2, p3, p4⟩ := times_words n x s hx
  have p4 := p4 hs
  obtain ⟨c1, e1⟩ : ∃ z, maHi n (fw0 x) (fw0 s) 0 = z := ⟨_, rfl⟩
  rw [e1] at p1 p2 p3 p4
  have h1 : c1 < 18446744073709551616 := e1 ▸ maHi_lt hn (fw0_lt x) (fw0_lt s) (by decide)
  obtain ⟨c2, e2⟩ : ∃ z, maHi n (fw1 x) (fw1 s) c1 = z := ⟨_, rfl⟩
  rw [e2] at p2 p3 p4
  have h2 : c2 < 18446744073709551616 := e2 ▸ maHi_lt hn (fw1_lt x) (fw1_lt s) h1
  obtain ⟨c3, e3⟩ : ∃ z, maHi n (fw2 x) (fw2 s) c2 = z := ⟨_, rfl⟩
  rw [e3] at p3 p4
  have h3 : c3 < 18446744073709551616 := e3 ▸ maHi_lt hn (fw2_lt x) (fw2_lt s) h2
  obtain ⟨c4, e4⟩ : ∃ z, maHi n (fw3 x) (fw3 s) c3 = z := ⟨_, rfl⟩
  rw [e4] at p4
  have h4 : c4 < 18446744073709551616 := e4 ▸ maHi_lt hn (fw3_lt x) (fw3_lt s) h3
  refine wp_seq (rg_c FF MM [] 8 [] [1, 2] (fun bx => fun bs_ => fun br => fun _ _ FF1 MM1 => then_n ?_))
  refine wp_seq (rg_c FF1 MM1 [] 9 [] [] (fun _ _ FF2 MM2 => then_n ?_))
  refine wp_seq (rg_c FF2 MM2 [(2, l_ 2 (iW (fw0 x))), (1, l_ 1 (iW (fw0 s))), (0, t_ (.tuple #[iW c1, iW (fw0 (n * x + s))])), (5, s_ 1 (oC #[iW (fw0 (n * x + s)), iW (fw1 s), iW (fw2 s), iW (fw3 s)] 95))] 9 [] [] (⟨rfl, rfl, rfl, rfl, (callP_of en_fma (fun w => by have h0 := fma_any n (fw0 x) (fw0 s) 0 hn (fw0_lt x) (fw0_lt s) (by decide) w; rw [e1, p0] at h0; exact h0) _), rfl, (by simp), (.inl rfl), rfl, fun _ _ FF3 MM3 => then_n ?_⟩))
  refine wp_seq (rg_c FF3 MM3 [(2, l_ 2 (iW (fw1 x))), (1, l_ 1 (iW (fw1 s))), (1, t_ (.tuple #[iW c2, iW (fw1 (n * x + s))])), (5, s_ 1 (oC #[iW (fw0 (n * x + s)), iW (fw1 (n * x + s)), iW (fw2 s), iW (fw3 s)] 95))] 9 [] [] (⟨rfl, rfl, rfl, rfl, (callP_of en_fma (fun w => by have h0 := fma_any n (fw1 x) (fw1 s) c1 hn (fw1_lt x) (fw1_lt s) h1 w; rw [e2, p1] at h0; exact h0) _), rfl, (by simp), (.inl rfl), rfl, fun _ _ FF4 MM4 => then_n ?_⟩))
  refine wp_seq (rg_c FF4 MM4 [(2, l_ 2 (iW (fw2 x))), (1, l_ 1 (iW (fw2 s))), (1, t_ (.tuple #[iW c3, iW (fw2 (n * x + s))])), (5, s_ 1 (oC #[iW (fw0 (n * x + s)), iW (fw1 (n * x + s)), iW (fw2 (n * x + s)), iW (fw3 s)] 95))] 9 [] [] (⟨rfl, rfl, rfl, rfl, (callP_of en_fma (fun w => by have h0 := fma_any n (fw2 x) (fw2 s) c2 hn (fw2_lt x) (fw2_lt s) h2 w; rw [e3, p2] at h0; exact h0) _), rfl, (by simp), (.inl rfl), rfl, fun _ _ FF5 MM5 => then_n ?_⟩))
  refine wp_seq (rg_c FF5 MM5 [(2, l_ 2 (iW (fw3 x))), (1, l_ 1 (iW (fw3 s))), (1, t_ (.tuple #[iW c4, iW (fw3 (n * x + s))])), (5, s_ 1 (oC #[iW (fw0 (n * x + s)), iW (fw1 (n * x + s)), iW (fw2 (n * x + s)), iW (fw3 (n * x + s))] 95))] 9 [] [] (⟨rfl, rfl, rfl, rfl, (callP_of en_fma (fun w => by have h0 := fma_any n (fw3 x) (fw3 s) c3 hn (fw3_lt x) (fw3_lt s) h3 w; rw [e4, p3] at h0; exact h0) _), rfl, (by simp), (.inl rfl), rfl, fun _ _ FF6 MM6 => then_n ?_⟩))
  refine wp_seq (rg_c FF6 MM6 [(0, b_ 1), (1, b_ 0)] 9 [] [] (⟨rfl, rfl, rfl, rfl, rfl, (by kernel_rfl), rfl, fun _ _ FF7 MM7 => then_n ?_⟩))
  refine wp_ret ?_
  repeat first | refine then_ret ?_ | refine inb_ret ?_
  exact (ret_ct FF7 MM7 (k := 4) (i := 0) (j := 2) (m := 0) Tryz.results101 rfl rfl rfl Tryz.underlying95 rfl (by kernel_rfl) rfl ⟨by rw [p4], MM7.below⟩)
set_option maxRecDepth 100000 in
theorem fchoose_0 (x y : Nat) (w0 : World) :
    Calls Tryz.prog 99 #[iW 0, .agg #[iW (fw0 x), iW (fw1 x), iW (fw2 x), iW (fw3 x)], .agg #[iW (fw0 y), iW (fw1 y), iW (fw2 y), iW (fw3 y)]] w0 fun e w' => e = .returned (.agg #[iW (fw0 x), iW (fw1 x), iW (fw2 x), iW (fw3 x)]) ∧ Below w0.heap.size w0 w' := by
  refine enter_fr Tryz.func99 rfl Tryz.ntmps99 (by simp) fun ac (FF : Fr 52 ac [(0, iW 0), (1, aG #[iW (fw0 x), iW (fw1 x), iW (fw2 x), iW (fw3 x)]), (2, aG #[iW (fw0 y), iW (fw1 y), iW (fw2 y), iW (fw3 y)])]) => ?_
  have MM := MemS.start w0
  refine wp_seq (rg_c FF MM [] 7 [] [1, 2] (fun bx => fun by_ => fun br => fun _ _ FF1 MM1 => then_n ?_))
  refine wp_seq (rg_c FF1 MM1 [(1, l_ 2 (iW (fw0 x))), (2, l_ 2 (iW (fw0 x))), (1, l_ 1 (iW (fw0 y))), (1, t_ (iW 0)), (0, t_ (iW (fw0 x))), (1, s_ 2 (oC #[iW (fw0 x), iW (fw1 x), iW (fw2 x), iW (fw3 x)] 95))] 7 [] [] (⟨rfl, rfl, rfl, rfl, rfl, rfl, (fw0_lt x), (fw0_lt y), by decide, (xor_lt64 (fw0_lt x) (fw0_lt y)), (vI (Nat.zero_and _)), (fw0_lt x), by decide, (vI (Nat.xor_zero _)), rfl, (by simp), (.inl rfl), rfl, fun _ _ FF2 MM2 => then_n ?_⟩))
  refine wp_seq (rg_c FF2 MM2 [(1, l_ 2 (iW (fw1 x))), (2, l_ 2 (iW (fw1 x))), (1, l_ 1 (iW (fw1 y))), (1, t_ (iW 0)), (0, t_ (iW (fw1 x))), (1, s_ 2 (oC #[iW (fw0 x), iW (fw1 x), iW (fw2 x), iW (fw3 x)] 95))] 7 [] [] (⟨rfl, rfl, rfl, rfl, rfl, rfl, (fw1_lt x), (fw1_lt y), by decide, (xor_lt64 (fw1_lt x) (fw1_lt y)), (vI (Nat.zero_and _)), (fw1_lt x), by decide, (vI (Nat.xor_zero _)), rfl, (by simp), (.inl rfl), rfl, fun _ _ FF3 MM3 => then_n ?_⟩))
  refine wp_seq (rg_c FF3 MM3 [(1, l_ 2 (iW (fw2 x))), (2, l_ 2 (iW (fw2 x))), (1, l_ 1 (iW (fw2 y))), (1, t_ (iW 0)), (0, t_ (iW (fw2 x))), (1, s_ 2 (oC #[iW (fw0 x), iW (fw1 x), iW (fw2 x), iW (fw3 x)] 95))] 7 [] [] (⟨rfl, rfl, rfl, rfl, rfl, rfl, (fw2_lt x), (fw2_lt y), by decide, (xor_lt64 (fw2_lt x) (fw2_lt y)), (vI (Nat.zero_and _)), (fw2_lt x), by decide, (vI (Nat.xor_zero _)), rfl, (by simp), (.inl rfl), rfl, fun _ _ FF4 MM4 => then_n ?_⟩))
  refine wp_seq (rg_c FF4 MM4 [(1, l_ 2 (iW (fw3 x))), (2, l_ 2 (iW (fw3 x))), (1, l_ 1 (iW (fw3 y))), (1, t_ (iW 0)), (0, t_ (iW (fw3 x))), (1, s_ 2 (oC #[iW (fw0 x), iW (fw1 x), iW (fw2 x), iW (fw3 x)] 95))] 7 [] [] (⟨rfl, rfl, rfl, rfl, rfl, rfl, (fw3_lt x), (fw3_lt y), by decide, (xor_lt64 (fw3_lt x) (fw3_lt y)), (vI (Nat.zero_and _)), (fw3_lt x), by decide, (vI (Nat.xor_zero _)), rfl, (by simp), (.inl rfl), rfl, fun _ _ FF5 MM5 => then_n ?_⟩))
  refine wp_seq (rg_c FF5 MM5 [(0, b_ 2), (0, b_ 0)] 7 [] [] (⟨rfl, rfl, rfl, rfl, rfl, (by kernel_rfl), rfl, fun _ _ FF6 MM6 => then_n ?_⟩))
  refine wp_ret ?_
  repeat first | refine then_ret ?_ | refine inb_ret ?_
  exact (retc FF6 MM6 (k := 4) (i := 0) (j := 0) Tryz.results99 rfl rfl Tryz.underlying95 rfl (by kernel_rfl) rfl ⟨rfl, MM6.below⟩)
set_option maxRecDepth 100000 in
theorem fchoose_1 (x y : Nat) (w0 : World) :
    Calls Tryz.prog 99 #[iW 18446744073709551615, .agg #[iW (fw0 x), iW (fw1 x), iW (fw2 x), iW (fw3 x)], .agg #[iW (fw0 y), iW (fw1 y), iW (fw2 y), iW (fw3 y)]] w0 fun e w' => e = .returned (.agg #[iW (fw0 y), iW (fw1 y), iW (fw2 y), iW (fw3 y)]) ∧ Below w0.heap.size w0 w' := by
  refine enter_fr Tryz.func99 rfl Tryz.ntmps99 (by simp) fun ac (FF : Fr 52 ac [(0, iW 18446744073709551615), (1, aG #[iW (fw0 x), iW (fw1 x), iW (fw2 x), iW (fw3 x)]), (2, aG #[iW (fw0 y), iW (fw1 y), iW (fw2 y), iW (fw3 y)])]) => ?_
  have MM := MemS.start w0
  refine wp_seq (rg_c FF MM [] 7 [] [1, 2] (fun bx => fun by_ => fun br => fun _ _ FF1 MM1 => then_n ?_))
  refine wp_seq (rg_c FF1 MM1 [(1, l_ 2 (iW (fw0 x))), (2, l_ 2 (iW (fw0 x))), (1, l_ 1 (iW (fw0 y))), (1, t_ (iW (fw0 x ^^^ fw0 y))), (0, t_ (iW (fw0 y))), (1, s_ 2 (oC #[iW (fw0 y), iW (fw1 x), iW (fw2 x), iW (fw3 x)] 95))] 7 [] [] (⟨rfl, rfl, rfl, rfl, rfl, rfl, (fw0_lt x), (fw0_lt y), by decide, (xor_lt64 (fw0_lt x) (fw0_lt y)), (vI (and_all (xor_lt64 (fw0_lt x) (fw0_lt y)))), (fw0_lt x), (xor_lt64 (fw0_lt x) (fw0_lt y)), (vI (xor_back _ _)), rfl, (by simp), (.inl rfl), rfl, fun _ _ FF2 MM2 => then_n ?_⟩))
  refine wp_seq (rg_c FF2 MM2 [(1, l_ 2 (iW (fw1 x))), (2, l_ 2 (iW (fw1 x))), (1, l_ 1 (iW (fw1 y))), (1, t_ (iW (fw1 x ^^^ fw1 y))), (0, t_ (iW (fw1 y))), (1, s_ 2 (oC #[iW (fw0 y), iW (fw1 y), iW (fw2 x), iW (fw3 x)] 95))] 7 [] [] (⟨rfl, rfl, rfl, rfl, rfl, rfl, (fw1_lt x), (fw1_lt y), by decide, (xor_lt64 (fw1_lt x) (fw1_lt y)), (vI (and_all (xor_lt64 (fw1_lt x) (fw1_lt y)))), (fw1_lt x), (xor_lt64 (fw1_lt x) (fw1_lt y)), (vI (xor_back _ _)), rfl, (by simp), (.inl rfl), rfl, fun _ _ FF3 MM3 => then_n ?_⟩))
  refine wp_seq (rg_c FF3 MM3 [(1, l_ 2 (iW (fw2 x))), (2, l_ 2 (iW (fw2 x))), (1, l_ 1 (iW (fw2 y))), (1, t_ (iW (fw2 x ^^^ fw2 y))), (0, t_ (iW (fw2 y))), (1, s_ 2 (oC #[iW (fw0 y), iW (fw1 y), iW (fw2 y), iW (fw3 x)] 95))] 7 [] [] (⟨rfl, rfl, rfl, rfl, rfl, rfl, (fw2_lt x), (fw2_lt y), by decide, (xor_lt64 (fw2_lt x) (fw2_lt y)), (vI (and_all (xor_lt64 (fw2_lt x) (fw2_lt y)))), (fw2_lt x), (xor_lt64 (fw2_lt x) (fw2_lt y)), (vI (xor_back _ _)), rfl, (by simp), (.inl rfl), rfl, fun _ _ FF4 MM4 => then_n ?_⟩))
  refine wp_seq (rg_c FF4 MM4 [(1, l_ 2 (iW (fw3 x))), (2, l_ 2 (iW (fw3 x))), (1, l_ 1 (iW (fw3 y))), (1, t_ (iW (fw3 x ^^^ fw3 y))), (0, t_ (iW (fw3 y))), (1, s_ 2 (oC #[iW (fw0 y), iW (fw1 y), iW (fw2 y), iW (fw3 y)] 95))] 7 [] [] (⟨rfl, rfl, rfl, rfl, rfl, rfl, (fw3_lt x), (fw3_lt y), by decide, (xor_lt64 (fw3_lt x) (fw3_lt y)), (vI (and_all (xor_lt64 (fw3_lt x) (fw3_lt y)))), (fw3_lt x), (xor_lt64 (fw3_lt x) (fw3_lt y)), (vI (xor_back _ _)), rfl, (by simp), (.inl rfl), rfl, fun _ _ FF5 MM5 => then_n ?_⟩))
  refine wp_seq (rg_c FF5 MM5 [(0, b_ 2), (0, b_ 0)] 7 [] [] (⟨rfl, rfl, rfl, rfl, rfl, (by kernel_rfl), rfl, fun _ _ FF6 MM6 => then_n ?_⟩))
  refine wp_ret ?_
  repeat first | refine then_ret ?_ | refine inb_ret ?_
  exact (retc FF6 MM6 (k := 4) (i := 0) (j := 0) Tryz.results99 rfl rfl Tryz.underlying95 rfl (by kernel_rfl) rfl ⟨rfl, MM6.below⟩)
end Go.Proofs.YtdjpacgjhcidpabGreatDoor
namespace Go.Proofs.YtdjpacgjhcidpabGreatDoor
open Go.RowKit
theorem andNot_top {a : Nat} (h : a < 18446744073709551616) : bits .andNot .u64 (a : Int) ((9223372036854775808 : Nat) : Int) = ((a % 9223372036854775808 : Nat) : Int) := by
  rw [u64_andNot_nat a _ h (by decide)]
  exact congrArg _ (Nat.and_two_pow_sub_one_eq_mod a 63)
theorem small_cells (n : Nat) (h : n < 18446744073709551616) : Value.agg #[iW n, iW 0, iW 0, iW 0] = .agg #[iW (fw0 n), iW (fw1 n), iW (fw2 n), iW (fw3 n)] := by
  obtain ⟨a, b, c, d⟩ := small_words n h
  rw [a, b, c, d]
theorem shift_cells (n : Nat) (h : n < 2135987035920910082395021706169552114602704522356652769947041607822219725780640550022962086936576) : Value.agg #[iW (fw1 n), iW (fw2 n), iW (fw3 n), iW (n / top4)] = .agg #[iW (fw0 (n / 18446744073709551616)), iW (fw1 (n / 18446744073709551616)), iW (fw2 (n / 18446744073709551616)), iW (fw3 (n / 18446744073709551616))] := by
  obtain ⟨a, b, c⟩ := shift_words n
  rw [a, b, c, shift_top n h]
theorem fw_mod (n : Nat) : fw0 (n % top4) = fw0 n ∧ fw1 (n % top4) = fw1 n ∧ fw2 (n % top4) = fw2 n ∧ fw3 (n % top4) = fw3 n := by
  unfold fw0 fw1 fw2 fw3 top4
  omega
set_option maxRecDepth 100000 in
theorem fsettle_any (x t : Nat) (hx : x < top4) (ht : t ≤ 38) (w0 : World) :
    Calls Tryz.prog 73 #[.agg #[iW (fw0 x), iW (fw1 x), iW (fw2 x), iW (fw3 x)], iW t] w0 fun e w' => e = .returned (.agg #[iW (fw0 (red x t)), iW (fw1 (red x t)), iW (fw2 (red x t)), iW (fw3 (red x t))]) ∧ Below w0.heap.size w0 w' := by
  refine enter_fr Tryz.func73 rfl Tryz.ntmps73 (by simp) fun ac (FF : Fr 38 ac [(0, aG #[iW (fw0 x), iW (fw1 x), iW (fw2 x), iW (fw3 x)]), (1, iW t)]) => ?_
  have MM := MemS.start w0
  have hov : ov x t ≤ 77 := ov_le ht
  obtain ⟨k0, k1, k2, k3⟩ := cut_words x
  obtain ⟨j0, j1, j2, j3⟩ := cut_words (mid x t + 19)
  have hw3 := fw3_lt x
  refine wp_seq (rg_c FF MM [] 5 [] [0] (fun bx => fun br => fun _ _ FF1 MM1 => then_n ?_))
  refine wp_seq (rg_c FF1 MM1 [(1, t_ (iW (t * 2))), (1, l_ 1 (iW (fw3 x))), (0, t_ (iW ((fw3 x) / 9223372036854775808))), (0, t_ (iW (ov x t)))] 6 [] [1] (⟨(vI (Nat.mod_eq_of_lt (by omega))), rfl, rfl, by decide, rfl, by omega, by omega, (vI ((Nat.or_comm _ _).trans ((or_shl 1 (by omega)).trans (by unfold ov; omega)))), fun _ _ FF2 MM2 => then_n ?_⟩))
  refine wp_seq (rg_c FF2 MM2 [(1, l_ 1 (iW (fw3 x))), (0, f_ (iW (fw3 x % 9223372036854775808))), (1, s_ 1 (oC #[iW (fw0 x), iW (fw1 x), iW (fw2 x), iW (fw3 x % 9223372036854775808)] 95))] 6 [] [] (⟨rfl, rfl, (andNot_ok (t := 24) (t' := 24) (x := (.tmp 15)) (y := (.const (iW 9223372036854775808))) (k := .u64) (a := fw3 x) (b := 9223372036854775808) (r := fw3 x % 9223372036854775808) (by kernel_rfl) rfl rfl (andNot_top (fw3_lt x))), rfl, (by simp), (.inl rfl), rfl, fun _ _ FF3 MM3 => then_n ?_⟩))
  have MMr9 : MemS _ _ _ [_, (bx, oC #[iW (fw0 (x % b255)), iW (fw1 (x % b255)), iW (fw2 (x % b255)), iW (fw3 (x % b255))] 95)] _ := MM3.eqA 1 rfl (by rw [k0, k1, k2, k3] <;> rfl)
  refine wp_seq (rg_c FF3 MMr9 [(0, b_ 1), (1, w_ 1), (0, t_ (aG #[iW (fw0 (19 * ov x t)), iW (fw1 (19 * ov x t)), iW (fw2 (19 * ov x t)), iW (fw3 (19 * ov x t))])), (0, t_ (aG #[iW (fw0 (mid x t)), iW (fw1 (mid x t)), iW (fw2 (mid x t)), iW (fw3 (mid x t))])), (0, b_ 1)] 5 [] [] (⟨rfl, rfl, by omega, (Eq.trans (show _ = some (#[iW (19 * (ov x t)), iW 0, iW 0, iW 0] : Array Value) by kernel_rfl) (congrArg some (Value.agg.inj (small_cells _ (by omega))))), (callP_of en_fplus (fplus_any (x % b255) (19 * ov x t)) _), rfl, rfl, rfl, (by kernel_rfl), rfl, fun _ _ FF4 MM4 => then_n ?_⟩))
  refine wp_seq (rg_c FF4 MM4 [(0, b_ 1), (0, t_ (aG #[iW (fw0 19), iW (fw1 19), iW (fw2 19), iW (fw3 19)])), (0, t_ (aG #[iW (fw0 (mid x t + 19)), iW (fw1 (mid x t + 19)), iW (fw2 (mid x t + 19)), iW (fw3 (mid x t + 19))])), (1, b_ 0)] 7 [] [] (⟨rfl, rfl, (Eq.trans (show _ = some (#[iW 19, iW 0, iW 0, iW 0] : Array Value) by kernel_rfl) (congrArg some (Value.agg.inj (small_cells 19 (by decide))))), (callP_of en_fplus (fplus_any (mid x t) 19) _), fun bl => ⟨rfl, rfl, rfl, (by kernel_rfl), rfl, fun _ _ FF5 MM5 => then_n ?_⟩⟩))
  refine wp_seq (rg_c FF5 MM5 [(1, l_ 0 (iW (fw3 (mid x t + 19)))), (0, t_ (iW ((fw3 (mid x t + 19)) / 9223372036854775808)))] 8 [] [] (⟨rfl, rfl, by decide, rfl, fun _ _ FF6 MM6 => then_n ?_⟩))
  refine wp_seq (rg_c FF6 MM6 [(1, l_ 0 (iW (fw3 (mid x t + 19)))), (0, f_ (iW (fw3 (mid x t + 19) % 9223372036854775808))), (1, s_ 0 (oC #[iW (fw0 (mid x t + 19)), iW (fw1 (mid x t + 19)), iW (fw2 (mid x t + 19)), iW (fw3 (mid x t + 19) % 9223372036854775808)] 95))] 8 [] [] (⟨rfl, rfl, (andNot_ok (t := 24) (t' := 24) (x := (.tmp 30)) (y := (.const (iW 9223372036854775808))) (k := .u64) (a := fw3 (mid x t + 19)) (b := 9223372036854775808) (r := fw3 (mid x t + 19) % 9223372036854775808) (by kernel_rfl) rfl rfl (andNot_top (fw3_lt (mid x t + 19)))), rfl, (by simp), (.inl rfl), rfl, fun _ _ FF7 MM7 => then_n ?_⟩))
  have MMr14 : MemS _ _ _ [(bl, oC #[iW (fw0 ((mid x t + 19) % b255)), iW (fw1 ((mid x t + 19) % b255)), iW (fw2 ((mid x t + 19) % b255)), iW (fw3 ((mid x t + 19) % b255))] 95), _, _] _ := MM7.eqA 0 rfl (by rw [j0, j1, j2, j3] <;> rfl)
  by_cases hp : fw3 (mid x t + 19) / 9223372036854775808 = 0
  · skip
    refine wp_seq (rg_c FF7 MMr14 [(1, t_ (iW 0)), (0, b_ 2), (0, b_ 0), (0, t_ (aG #[iW (fw0 (mid x t)), iW (fw1 (mid x t)), iW (fw2 (mid x t)), iW (fw3 (mid x t))])), (0, b_ 1)] 7 [] [] (⟨(by have := fw3_lt (mid x t + 19); omega), (vI (by omega)), rfl, rfl, rfl, rfl, (callP_of en_fchoose (fchoose_0 (mid x t) ((mid x t + 19) % b255)) _), rfl, rfl, rfl, (by kernel_rfl), rfl, fun _ _ FF8 MM8 => then_n ?_⟩))
    refine wp_ret ?_
    repeat first | refine then_ret ?_ | refine inb_ret ?_
    exact (retc FF8 MM8 (k := 4) (i := 1) (j := 1) Tryz.results73 rfl rfl Tryz.underlying95 rfl (by kernel_rfl) rfl ⟨by rw [settle_lo hx ht hp], MM8.below⟩)
  · skip
    obtain ⟨s1, s2⟩ := settle_hi hx ht hp
    refine wp_seq (rg_c FF7 MMr14 [(1, t_ (iW 18446744073709551615)), (0, b_ 2), (0, b_ 0), (0, t_ (aG #[iW (fw0 ((mid x t + 19) % b255)), iW (fw1 ((mid x t + 19) % b255)), iW (fw2 ((mid x t + 19) % b255)), iW (fw3 ((mid x t + 19) % b255))])), (0, b_ 1)] 7 [] [] (⟨(by have := fw3_lt (mid x t + 19); omega), (vI (by omega)), rfl, rfl, rfl, rfl, (callP_of en_fchoose (fchoose_1 (mid x t) ((mid x t + 19) % b255)) _), rfl, rfl, rfl, (by kernel_rfl), rfl, fun _ _ FF9 MM9 => then_n ?_⟩))
    refine wp_ret ?_
    repeat first | refine then_ret ?_ | refine inb_ret ?_
    exact (retc FF9 MM9 (k := 4) (i := 1) (j := 1) Tryz.results73 rfl rfl Tryz.underlying95 rfl (by kernel_rfl) rfl ⟨by rw [s1], MM9.below⟩)
end Go.Proofs.YtdjpacgjhcidpabGreatDoor
namespace Go.Proofs.YtdjpacgjhcidpabGreatDoor
open Go.RowKit
set_option maxHeartbeats 1000000 in
set_option maxRecDepth 100000 in
theorem fprod_any (x y : Nat) (hx : x < top4) (hy : y < top4) (w0 : World) :
    Calls Tryz.prog 77 #[.agg #[iW (fw0 x), iW (fw1 x), iW (fw2 x), iW (fw3 x)], .agg #[iW (fw0 y), iW (fw1 y), iW (fw2 y), iW (fw3 y)]] w0 fun e w' => e = .returned (.agg #[iW (fw0 (x * y % pN)), iW (fw1 (x * y % pN)), iW (fw2 (x * y % pN)), iW (fw3 (x * y % pN))]) ∧ Below w0.heap.size w0 w' := by
  refine enter_fr Tryz.func77 rfl Tryz.ntmps77 (by simp) fun ac (FF : Fr 86 ac [(0, aG #[iW (fw0 x), iW (fw1 x), iW (fw2 x), iW (fw3 x)]), (1, aG #[iW (fw0 y), iW (fw1 y), iW (fw2 y), iW (fw3 y)])]) => ?_
  have MM := MemS.start w0
  obtain ⟨b1, b2, b3, b4⟩ := S_lt x hy
  obtain ⟨g1, g2, g3, g4⟩ := S_small x hy
  obtain ⟨r1, r2⟩ := prod_red x y hx hy
  have q : fw0 (lowN x y) = fw0 (S1 x y) ∧ fw1 (lowN x y) = fw0 (S2 x y) ∧ fw2 (lowN x y) = fw0 (S3 x y) ∧ fw3 (lowN x y) = fw0 (S4 x y) := w_mk4 (fw0_lt _) (fw0_lt _) (fw0_lt _) (fw0_lt _)
  obtain ⟨q0, q1, q2, q3⟩ := q
  refine wp_seq (rg_c FF MM [] 5 [] [0, 1] (fun bx => fun by_ => fun br => fun _ _ FF1 MM1 => then_n ?_))
  refine wp_seq (rg_c FF1 MM1 [] 6 [] [] (fun bo => fun _ _ FF2 MM2 => then_n ?_))
  refine wp_seq (rg_c FF2 MM2 [(1, l_ 3 (iW (fw0 x))), (0, b_ 2), (0, t_ (aG #[iW (fw0 0), iW (fw1 0), iW (fw2 0), iW (fw3 0)])), (0, t_ (.tuple #[aG #[iW (fw0 (S1 x y)), iW (fw1 (S1 x y)), iW (fw2 (S1 x y)), iW (fw3 (S1 x y))], iW (S1 x y / top4)])), (4, b_ 0)] 8 [] [] (⟨rfl, rfl, rfl, rfl, (Eq.trans (show _ = some (#[iW 0, iW 0, iW 0, iW 0] : Array Value) by kernel_rfl) (congrArg some (Value.agg.inj (small_cells 0 (by decide))))), (callP_of en_ftimes (ftimes_any (fw0 x) y 0 (fw0_lt x) hy (by decide)) _), fun bs_ => ⟨rfl, rfl, rfl, (by kernel_rfl), rfl, fun _ _ FF3 MM3 => then_n ?_⟩⟩))
  refine wp_seq (rg_c FF3 MM3 [(1, l_ 0 (iW (fw0 (S1 x y)))), (1, s_ 1 (oC #[iW (fw0 (S1 x y)), iW 0, iW 0, iW 0] 95))] 8 [] [] (⟨rfl, rfl, rfl, (by simp), (.inl rfl), rfl, fun _ _ FF4 MM4 => then_n ?_⟩))
  refine wp_seq (rg_c FF4 MM4 [(1, l_ 4 (iW (fw1 x))), (0, b_ 3), (1, l_ 0 (iW (fw1 (S1 x y)))), (1, l_ 0 (iW (fw2 (S1 x y)))), (1, l_ 0 (iW (fw3 (S1 x y)))), (1, t_ (aG #[iW (fw0 (S1 x y / 18446744073709551616)), iW (fw1 (S1 x y / 18446744073709551616)), iW (fw2 (S1 x y / 18446744073709551616)), iW (fw3 (S1 x y / 18446744073709551616))])), (0, t_ (.tuple #[aG #[iW (fw0 (S2 x y)), iW (fw1 (S2 x y)), iW (fw2 (S2 x y)), iW (fw3 (S2 x y))], iW (S2 x y / top4)])), (3, b_ 0)] 8 [] [] (⟨rfl, rfl, rfl, rfl, rfl, rfl, rfl, rfl, rfl, rfl, (Eq.trans (show _ = some (#[iW (fw1 (S1 x y)), iW (fw2 (S1 x y)), iW (fw3 (S1 x y)), iW (S1 x y / top4)] : Array Value) by kernel_rfl) (congrArg some (Value.agg.inj (shift_cells _ g1)))), (callP_of en_ftimes (ftimes_any (fw1 x) y (S1 x y / 18446744073709551616) (fw1_lt x) hy b1) _), rfl, rfl, rfl, (by kernel_rfl), rfl, fun _ _ FF5 MM5 => then_n ?_⟩))
  refine wp_seq (rg_c FF5 MM5 [(1, l_ 0 (iW (fw0 (S2 x y)))), (1, s_ 1 (oC #[iW (fw0 (S1 x y)), iW (fw0 (S2 x y)), iW 0, iW 0] 95))] 8 [] [] (⟨rfl, rfl, rfl, (by simp), (.inl rfl), rfl, fun _ _ FF6 MM6 => then_n ?_⟩))
  refine wp_seq (rg_c FF6 MM6 [(1, l_ 4 (iW (fw2 x))), (0, b_ 3), (1, l_ 0 (iW (fw1 (S2 x y)))), (1, l_ 0 (iW (fw2 (S2 x y)))), (1, l_ 0 (iW (fw3 (S2 x y)))), (1, t_ (aG #[iW (fw0 (S2 x y / 18446744073709551616)), iW (fw1 (S2 x y / 18446744073709551616)), iW (fw2 (S2 x y / 18446744073709551616)), iW (fw3 (S2 x y / 18446744073709551616))])), (0, t_ (.tuple #[aG #[iW (fw0 (S3 x y)), iW (fw1 (S3 x y)), iW (fw2 (S3 x y)), iW (fw3 (S3 x y))], iW (S3 x y / top4)])), (3, b_ 0)] 8 [] [] (⟨rfl, rfl, rfl, rfl, rfl, rfl, rfl, rfl, rfl, rfl, (Eq.trans (show _ = some (#[iW (fw1 (S2 x y)), iW (fw2 (S2 x y)), iW (fw3 (S2 x y)), iW (S2 x y / top4)] : Array Value) by kernel_rfl) (congrArg some (Value.agg.inj (shift_cells _ g2)))), (callP_of en_ftimes (ftimes_any (fw2 x) y (S2 x y / 18446744073709551616) (fw2_lt x) hy b2) _), rfl, rfl, rfl, (by kernel_rfl), rfl, fun _ _ FF7 MM7 => then_n ?_⟩))
  refine wp_seq (rg_c FF7 MM7 [(1, l_ 0 (iW (fw0 (S3 x y)))), (1, s_ 1 (oC #[iW (fw0 (S1 x y)), iW (fw0 (S2 x y)), iW (fw0 (S3 x y)), iW 0] 95))] 8 [] [] (⟨rfl, rfl, rfl, (by simp), (.inl rfl), rfl, fun _ _ FF8 MM8 => then_n ?_⟩))
  refine wp_seq (rg_c FF8 MM8 [(1, l_ 4 (iW (fw3 x))), (0, b_ 3), (1, l_ 0 (iW (fw1 (S3 x y)))), (1, l_ 0 (iW (fw2 (S3 x y)))), (1, l_ 0 (iW (fw3 (S3 x y)))), (1, t_ (aG #[iW (fw0 (S3 x y / 18446744073709551616)), iW (fw1 (S3 x y / 18446744073709551616)), iW (fw2 (S3 x y / 18446744073709551616)), iW (fw3 (S3 x y / 18446744073709551616))])), (0, t_ (.tuple #[aG #[iW (fw0 (S4 x y)), iW (fw1 (S4 x y)), iW (fw2 (S4 x y)), iW (fw3 (S4 x y))], iW (S4 x y / top4)])), (3, b_ 0)] 8 [] [] (⟨rfl, rfl, rfl, rfl, rfl, rfl, rfl, rfl, rfl, rfl, (Eq.trans (show _ = some (#[iW (fw1 (S3 x y)), iW (fw2 (S3 x y)), iW (fw3 (S3 x y)), iW (S3 x y / top4)] : Array Value) by kernel_rfl) (congrArg some (Value.agg.inj (shift_cells _ g3)))), (callP_of en_ftimes (ftimes_any (fw3 x) y (S3 x y / 18446744073709551616) (fw3_lt x) hy b3) _), rfl, rfl, rfl, (by kernel_rfl), rfl, fun _ _ FF9 MM9 => then_n ?_⟩))
  refine wp_seq (rg_c FF9 MM9 [(1, l_ 0 (iW (fw0 (S4 x y)))), (1, s_ 1 (oC #[iW (fw0 (S1 x y)), iW (fw0 (S2 x y)), iW (fw0 (S3 x y)), iW (fw0 (S4 x y))] 95))] 8 [] [] (⟨rfl, rfl, rfl, (by simp), (.inl rfl), rfl, fun _ _ FF10 MM10 => then_n ?_⟩))
  have MMr17 : MemS _ _ _ [_, (bo, oC #[iW (fw0 (lowN x y)), iW (fw1 (lowN x y)), iW (fw2 (lowN x y)), iW (fw3 (lowN x y))] 95), _, _, _] _ := MM10.eqA 1 rfl (by rw [q0, q1, q2, q3] <;> rfl)
  obtain ⟨m0, m1, m2, m3⟩ := fw_mod (38 * (S4 x y / 18446744073709551616) + lowN x y)
  refine wp_seq (rg_c FF10 MMr17 [(1, l_ 0 (iW (fw1 (S4 x y)))), (1, l_ 0 (iW (fw2 (S4 x y)))), (1, l_ 0 (iW (fw3 (S4 x y)))), (1, t_ (aG #[iW (fw0 (S4 x y / 18446744073709551616)), iW (fw1 (S4 x y / 18446744073709551616)), iW (fw2 (S4 x y / 18446744073709551616)), iW (fw3 (S4 x y / 18446744073709551616))])), (0, b_ 1), (0, t_ (.tuple #[aG #[iW (fw0 ((38 * (S4 x y / 18446744073709551616) + lowN x y) % top4)), iW (fw1 ((38 * (S4 x y / 18446744073709551616) + lowN x y) % top4)), iW (fw2 ((38 * (S4 x y / 18446744073709551616) + lowN x y) % top4)), iW (fw3 ((38 * (S4 x y / 18446744073709551616) + lowN x y) % top4))], iW ((38 * (S4 x y / 18446744073709551616) + lowN x y) / top4)])), (2, t_ (aG #[iW (fw0 (x * y % pN)), iW (fw1 (x * y % pN)), iW (fw2 (x * y % pN)), iW (fw3 (x * y % pN))])), (0, b_ 2)] 8 [] [] (⟨rfl, rfl, rfl, rfl, rfl, rfl, (Eq.trans (show _ = some (#[iW (fw1 (S4 x y)), iW (fw2 (S4 x y)), iW (fw3 (S4 x y)), iW (S4 x y / top4)] : Array Value) by kernel_rfl) (congrArg some (Value.agg.inj (shift_cells _ g4)))), rfl, rfl, (callP_of en_ftimes (fun w => by have h0 := ftimes_any 38 (S4 x y / 18446744073709551616) (lowN x y) (by decide) b4 (lowN_lt x y) w; rw [← m0, ← m1, ← m2, ← m3] at h0; exact h0) _), (callP_of en_fsettle (fun w => by have h0 := fsettle_any ((38 * (S4 x y / 18446744073709551616) + lowN x y) % top4) ((38 * (S4 x y / 18446744073709551616) + lowN x y) / top4) (Nat.mod_lt _ (by decide)) r1 w; rw [r2] at h0; exact h0) _), rfl, rfl, rfl, (by kernel_rfl), rfl, fun _ _ FF11 MM11 => then_n ?_⟩))
  refine wp_ret ?_
  repeat first | refine then_ret ?_ | refine inb_ret ?_
  exact (retc FF11 MM11 (k := 4) (i := 2) (j := 3) Tryz.results77 rfl rfl Tryz.underlying95 rfl (by kernel_rfl) rfl ⟨rfl, MM11.below⟩)
end Go.Proofs.YtdjpacgjhcidpabGreatDoor
namespace Go.Proofs.YtdjpacgjhcidpabGreatDoor
open Go.RowKit
theorem red0 (x : Nat) : red x 0 = x % pN := by rw [red, Nat.mul_zero, Nat.add_zero]
set_option maxRecDepth 100000 in
theorem fNum_any (n : Nat) (hn : n < 18446744073709551616) (w0 : World) :
    Calls Tryz.prog 48 #[iW n] w0 fun e w' => e = .returned (.agg #[iW (fw0 n), iW (fw1 n), iW (fw2 n), iW (fw3 n)]) ∧ Below w0.heap.size w0 w' := by
  refine enter_fr Tryz.func48 rfl Tryz.ntmps48 (by simp) fun ac (FF : Fr 6 ac [(0, iW n)]) => ?_
  have MM := MemS.start w0
  refine wp_seq (rg_c FF MM [] 3 [] [] (fun br => fun _ _ FF1 MM1 => then_n ?_))
  refine wp_seq (rg_c FF1 MM1 [(1, t_ (aG #[iW (fw0 n), iW (fw1 n), iW (fw2 n), iW (fw3 n)])), (0, t_ (aG #[iW (fw0 n), iW (fw1 n), iW (fw2 n), iW (fw3 n)])), (0, b_ 0)] 0 [2] [] (⟨(Eq.trans (show _ = some (#[iW n, iW 0, iW 0, iW 0] : Array Value) by kernel_rfl) (congrArg some (Value.agg.inj (small_cells n hn)))), (Eq.trans (show _ = some (#[iW (fw0 n), iW (fw1 n), iW (fw2 n), iW (fw3 n)] : Array Value) by kernel_rfl) (congrArg some (Value.agg.inj rfl))), rfl, rfl, rfl, (by kernel_rfl), rfl, fun _ _ FF2 MM2 => then_n ?_⟩))
  refine wp_ret ?_
  repeat first | refine then_ret ?_ | refine inb_ret ?_
  exact (retc FF2 MM2 (k := 4) (i := 0) (j := 0) Tryz.results48 rfl rfl Tryz.underlying97 rfl (by kernel_rfl) rfl ⟨rfl, MM2.below⟩)
set_option maxRecDepth 100000 in
theorem fSub_any (x y : Nat) (hx : x < pN) (hy : y < pN) (w0 : World) :
    Calls Tryz.prog 76 #[.agg #[iW (fw0 x), iW (fw1 x), iW (fw2 x), iW (fw3 x)], .agg #[iW (fw0 y), iW (fw1 y), iW (fw2 y), iW (fw3 y)]] w0 fun e w' => e = .returned (.agg #[iW (fw0 ((x + (pN - y)) % pN)), iW (fw1 ((x + (pN - y)) % pN)), iW (fw2 ((x + (pN - y)) % pN)), iW (fw3 ((x + (pN - y)) % pN))]) ∧ Below w0.heap.size w0 w' := by
  refine enter_fr Tryz.func76 rfl Tryz.ntmps76 (by simp) fun ac (FF : Fr 13 ac [(0, aG #[iW (fw0 x), iW (fw1 x), iW (fw2 x), iW (fw3 x)]), (1, aG #[iW (fw0 y), iW (fw1 y), iW (fw2 y), iW (fw3 y)])]) => ?_
  have MM := MemS.start w0
  have hs : x + (pN - y) < top4 := by unfold pN top4 at *; omega
  refine wp_seq (rg_c FF MM [] 5 [] [0, 1] (fun bx => fun by_ => fun br => fun _ _ FF1 MM1 => then_n ?_))
  refine wp_seq (rg_dc 8 FF1 MM1 [(1, l_ 2 (aG #[iW (fw0 x), iW (fw1 x), iW (fw2 x), iW (fw3 x)])), (1, l_ 1 (aG #[iW (fw0 y), iW (fw1 y), iW (fw2 y), iW (fw3 y)])), (0, t_ (aG #[iW (fw0 (pN - y)), iW (fw1 (pN - y)), iW (fw2 (pN - y)), iW (fw3 (pN - y))])), (0, t_ (aG #[iW (fw0 (x + (pN - y))), iW (fw1 (x + (pN - y))), iW (fw2 (x + (pN - y))), iW (fw3 (x + (pN - y)))])), (0, t_ (aG #[iW (fw0 ((x + (pN - y)) % pN)), iW (fw1 ((x + (pN - y)) % pN)), iW (fw2 ((x + (pN - y)) % pN)), iW (fw3 ((x + (pN - y)) % pN))])), (0, t_ (aG #[iW (fw0 ((x + (pN - y)) % pN)), iW (fw1 ((x + (pN - y)) % pN)), iW (fw2 ((x + (pN - y)) % pN)), iW (fw3 ((x + (pN - y)) % pN))]))] [(0, b_ 0)] 0 [4] [] (⟨rfl, (part_whole _), rfl, rfl, (part_whole _), rfl, (callP_of en_fopp (fopp_any y (Nat.le_of_lt hy)) _), (callP_of en_fplus (fplus_any x (pN - y)) _), (by rw [← red0]; exact (callP_of en_fsettle (fsettle_any (x + (pN - y)) 0 hs (Nat.zero_le _)) _)), (Eq.trans (show _ = some (#[iW (fw0 ((x + (pN - y)) % pN)), iW (fw1 ((x + (pN - y)) % pN)), iW (fw2 ((x + (pN - y)) % pN)), iW (fw3 ((x + (pN - y)) % pN))] : Array Value) by kernel_rfl) (congrArg some (Value.agg.inj rfl))), rfl, rfl, rfl, (by kernel_rfl), rfl, fun _ _ FF2 MM2 => then_n ?_⟩))
  refine wp_ret ?_
  repeat first | refine then_ret ?_ | refine inb_ret ?_
  exact (retc FF2 MM2 (k := 4) (i := 0) (j := 0) Tryz.results76 rfl rfl Tryz.underlying97 rfl (by kernel_rfl) rfl ⟨rfl, MM2.below⟩)
set_option maxRecDepth 100000 in
theorem fPick_0 (x y : Nat) (w0 : World) :
    Calls Tryz.prog 74 #[iN 0, .agg #[iW (fw0 x), iW (fw1 x), iW (fw2 x), iW (fw3 x)], .agg #[iW (fw0 y), iW (fw1 y), iW (fw2 y), iW (fw3 y)]] w0 fun e w' => e = .returned (.agg #[iW (fw0 x), iW (fw1 x), iW (fw2 x), iW (fw3 x)]) ∧ Below w0.heap.size w0 w' := by
  refine enter_fr Tryz.func74 rfl Tryz.ntmps74 (by simp) fun ac (FF : Fr 23 ac [(0, iN 0), (1, aG #[iW (fw0 x), iW (fw1 x), iW (fw2 x), iW (fw3 x)]), (2, aG #[iW (fw0 y), iW (fw1 y), iW (fw2 y), iW (fw3 y)])]) => ?_
  have MM := MemS.start w0
  refine wp_seq (rg_c FF MM [] 7 [] [1, 2] (fun bx => fun by_ => fun br => fun _ _ FF1 MM1 => then_n ?_))
  refine wp_seq (rg_c FF1 MM1 [(2, t_ (iW 1))] 8 [] [0] (⟨by decide, by decide, rfl, fun _ _ FF2 MM2 => then_n ?_⟩))
  refine wp_seq (rg_c FF2 MM2 [(2, t_ (iW 18446744073709551615)), (0, t_ (iW 18446744073709551615)), (0, t_ (iW 1)), (0, t_ (iW 0)), (1, l_ 2 (aG #[iW (fw0 x), iW (fw1 x), iW (fw2 x), iW (fw3 x)])), (1, l_ 1 (aG #[iW (fw0 y), iW (fw1 y), iW (fw2 y), iW (fw3 y)])), (0, t_ (aG #[iW (fw0 x), iW (fw1 x), iW (fw2 x), iW (fw3 x)])), (0, t_ (aG #[iW (fw0 x), iW (fw1 x), iW (fw2 x), iW (fw3 x)])), (0, b_ 0)] 0 [6] [] (⟨by decide, rfl, by decide, by decide, rfl, by decide, rfl, by decide, rfl, rfl, (part_whole _), rfl, rfl, (part_whole _), rfl, (callP_of en_fchoose (fchoose_0 x y) _), (Eq.trans (show _ = some (#[iW (fw0 x), iW (fw1 x), iW (fw2 x), iW (fw3 x)] : Array Value) by kernel_rfl) (congrArg some (Value.agg.inj rfl))), rfl, rfl, rfl, (by kernel_rfl), rfl, fun _ _ FF3 MM3 => then_n ?_⟩))
  refine wp_ret ?_
  repeat first | refine then_ret ?_ | refine inb_ret ?_
  exact (retc FF3 MM3 (k := 4) (i := 0) (j := 0) Tryz.results74 rfl rfl Tryz.underlying97 rfl (by kernel_rfl) rfl ⟨rfl, MM3.below⟩)
set_option maxRecDepth 100000 in
theorem fPick_1 (x y : Nat) (w0 : World) :
    Calls Tryz.prog 74 #[iN 1, .agg #[iW (fw0 x), iW (fw1 x), iW (fw2 x), iW (fw3 x)], .agg #[iW (fw0 y), iW (fw1 y), iW (fw2 y), iW (fw3 y)]] w0 fun e w' => e = .returned (.agg #[iW (fw0 y), iW (fw1 y), iW (fw2 y), iW (fw3 y)]) ∧ Below w0.heap.size w0 w' := by
  refine enter_fr Tryz.func74 rfl Tryz.ntmps74 (by simp) fun ac (FF : Fr 23 ac [(0, iN 1), (1, aG #[iW (fw0 x), iW (fw1 x), iW (fw2 x), iW (fw3 x)]), (2, aG #[iW (fw0 y), iW (fw1 y), iW (fw2 y), iW (fw3 y)])]) => ?_
  have MM := MemS.start w0
  refine wp_seq (rg_c FF MM [] 7 [] [1, 2] (fun bx => fun by_ => fun br => fun _ _ FF1 MM1 => then_n ?_))
  refine wp_seq (rg_c FF1 MM1 [(2, t_ (iW 0))] 8 [] [0] (⟨by decide, by decide, rfl, fun _ _ FF2 MM2 => then_n ?_⟩))
  refine wp_seq (rg_c FF2 MM2 [(2, t_ (iW 0)), (0, t_ (iW 0)), (0, t_ (iW 0)), (0, t_ (iW 18446744073709551615)), (1, l_ 2 (aG #[iW (fw0 x), iW (fw1 x), iW (fw2 x), iW (fw3 x)])), (1, l_ 1 (aG #[iW (fw0 y), iW (fw1 y), iW (fw2 y), iW (fw3 y)])), (0, t_ (aG #[iW (fw0 y), iW (fw1 y), iW (fw2 y), iW (fw3 y)])), (0, t_ (aG #[iW (fw0 y), iW (fw1 y), iW (fw2 y), iW (fw3 y)])), (0, b_ 0)] 0 [6] [] (⟨by decide, rfl, by decide, by decide, rfl, by decide, rfl, by decide, rfl, rfl, (part_whole _), rfl, rfl, (part_whole _), rfl, (callP_of en_fchoose (fchoose_1 x y) _), (Eq.trans (show _ = some (#[iW (fw0 y), iW (fw1 y), iW (fw2 y), iW (fw3 y)] : Array Value) by kernel_rfl) (congrArg some (Value.agg.inj rfl))), rfl, rfl, rfl, (by kernel_rfl), rfl, fun _ _ FF3 MM3 => then_n ?_⟩))
  refine wp_ret ?_
  repeat first | refine then_ret ?_ | refine inb_ret ?_
  exact (retc FF3 MM3 (k := 4) (i := 0) (j := 0) Tryz.results74 rfl rfl Tryz.underlying97 rfl (by kernel_rfl) rfl ⟨rfl, MM3.below⟩)
end Go.Proofs.YtdjpacgjhcidpabGreatDoor
namespace Go.Proofs.YtdjpacgjhcidpabGreatDoor
open Go.RowKit
/-- The power p - 2, a bit a round. -/
def invTo (x : Nat) : Nat → Nat
  | 0 => 1
  | j + 1 => if j = 252 ∨ j = 250 then invTo x j * invTo x j % pN else (invTo x j * invTo x j % pN) * x % pN
theorem pN_top : pN < top4 := by decide
theorem invTo_lt (x j : Nat) : invTo x j < top4 := by
  cases j with
  | zero => show 1 < top4; decide
  | succ j =>
    unfold invTo
    split <;> exact Nat.lt_trans (Nat.mod_lt _ (by decide)) pN_top
theorem inv_yes (x : Nat) {k : Nat} (h : k = 2 ∨ k = 4) : invTo x (255 - k) = invTo x (255 - (k + 1)) * invTo x (255 - (k + 1)) % pN := by
  rw [show 255 - k = 255 - (k + 1) + 1 by omega, invTo, if_pos (by omega)]
theorem inv_no (x : Nat) {k : Nat} (h2 : k ≠ 2) (h4 : k ≠ 4) (hk : k < 255) : invTo x (255 - k) = invTo x (255 - (k + 1)) * invTo x (255 - (k + 1)) % pN * x % pN := by
  rw [show 255 - k = 255 - (k + 1) + 1 by omega, invTo, if_neg (by omega)]
set_option maxHeartbeats 1000000 in
set_option maxRecDepth 100000 in
theorem fInv_any (x : Nat) (hx : x < top4) (w0 : World) :
    Calls Tryz.prog 52 #[.agg #[iW (fw0 x), iW (fw1 x), iW (fw2 x), iW (fw3 x)]] w0 fun e w' => e = .returned (.agg #[iW (fw0 (invTo x 255)), iW (fw1 (invTo x 255)), iW (fw2 (invTo x 255)), iW (fw3 (invTo x 255))]) ∧ Below w0.heap.size w0 w' := by
  refine enter_fr Tryz.func52 rfl Tryz.ntmps52 (by simp) fun ac (FF : Fr 25 ac [(0, aG #[iW (fw0 x), iW (fw1 x), iW (fw2 x), iW (fw3 x)])]) => ?_
  have MM := MemS.start w0
  refine wp_seq (rg_c FF MM [] 3 [] [0] (fun bx => fun br => fun _ _ FF1 MM1 => then_n ?_))
  refine wp_seq (rg_c FF1 MM1 [(0, t_ (aG #[iW (fw0 1), iW (fw1 1), iW (fw2 1), iW (fw3 1)])), (1, b_ 0)] 4 [] [] (⟨(Eq.trans (show _ = some (#[iW 1, iW 0, iW 0, iW 0] : Array Value) by kernel_rfl) (congrArg some (Value.agg.inj (small_cells 1 (by decide))))), fun bo => ⟨rfl, rfl, rfl, (by kernel_rfl), rfl, fun _ _ FF2 MM2 => then_n ?_⟩⟩))
  have MMr4 : MemS _ _ _ [(bo, oC #[iW (fw0 (invTo x (255 - 255))), iW (fw1 (invTo x (255 - 255))), iW (fw2 (invTo x (255 - 255))), iW (fw3 (invTo x (255 - 255)))] 95), _, _] _ := MM2
  refine wp_seq ?_
  refine wp_seq (rg_c FF2 MMr4 [] 5 [] [] (fun _ _ FF3 MM3 => then_n ?_))
  refine wp_for2 (fun a' w' => ∃ k : Nat, k ≤ 255 ∧ Fr 25 a' [(4, .int .i64 (((k : Nat) : Int) - 1 : Int)), (3, pT bo), (2, pT br), (1, pT bx)] ∧ MemS (fun k => k < w0.heap.size) w0 w' [(bo, oC #[iW (fw0 (invTo x (255 - k))), iW (fw1 (invTo x (255 - k))), iW (fw2 (invTo x (255 - k))), iW (fw3 (invTo x (255 - k)))] 95), (br, oC #[iW 0, iW 0, iW 0, iW 0] 97), (bx, oC #[iW (fw0 x), iW (fw1 x), iW (fw2 x), iW (fw3 x)] 97)] []) (fun a' _ => (cnt 4 a' + 1).toNat) ⟨255, Nat.le_refl _, FF3.pick [0, 1, 2, 3], MM3⟩ ?_
  rintro ac4 wd4 ⟨k, hk, FF4, MM4⟩
  have hc := cnt_of (FF4.get 0 rfl)
  refine rg_c FF4 MM4 [(1, w_ 4)] 5 [7] [] (fun _ _ FF5 MM5 => ?_)
  by_cases hlt : (((k : Nat) : Int) - 1) ≥ ((0 : Nat) : Int)
  · skip
    refine then_n (.inl ⟨(FF5.ev 0 rfl).trans (dec_t hlt), ?_⟩)
    obtain ⟨k, rfl⟩ : ∃ z, k = z + 1 := ⟨k - 1, by omega⟩
    by_cases h2 : k = 2
    · skip
      refine wp_seq (rg_c FF5 MM5 [(0, b_ 0), (0, b_ 0), (0, t_ (aG #[iW (fw0 ((invTo x (255 - (k + 1))) * (invTo x (255 - (k + 1))) % pN)), iW (fw1 ((invTo x (255 - (k + 1))) * (invTo x (255 - (k + 1))) % pN)), iW (fw2 ((invTo x (255 - (k + 1))) * (invTo x (255 - (k + 1))) % pN)), iW (fw3 ((invTo x (255 - (k + 1))) * (invTo x (255 - (k + 1))) % pN))])), (0, b_ 0)] 5 [] [] (⟨rfl, rfl, rfl, rfl, (callP_of en_fprod (fprod_any (invTo x (255 - (k + 1))) (invTo x (255 - (k + 1))) (invTo_lt _ _) (invTo_lt _ _)) _), rfl, rfl, rfl, (by kernel_rfl), rfl, fun _ _ FF6 MM6 => then_n ?_⟩))
      have MMr18 : MemS _ _ _ [(bo, oC #[iW (fw0 (invTo x (255 - k))), iW (fw1 (invTo x (255 - k))), iW (fw2 (invTo x (255 - k))), iW (fw3 (invTo x (255 - k)))] 95), _, _] _ := MM6.eqA 0 rfl (by rw [inv_yes x (.inl h2)] <;> rfl)
      refine wp_seq (rg_c FF6 MMr18 [(1, u_ 4 (.bool false))] 5 [18] [] (⟨(dec_f (by omega)), fun _ _ FF7 MM7 => then_n ?_⟩))
      refine wp_cond_false (FF7.ev 0 rfl) ?_
      refine wp_skip ?_
      refine inb_n (then_n ?_)
      refine rg_c FF7 MM7 [(1, u_ 4 (.int .i64 (((k : Nat) : Int) - 1 : Int)))] 5 [] [] (⟨by omega, by omega, (vZ (by omega)), fun _ _ FF8 MM8 => ?_⟩)
      have hd := cnt_of (FF8.get 0 rfl)
      refine then_n ⟨⟨k, by omega, FF8.pick [0, 1, 2, 3], MM8⟩, ?_⟩
      rw [hc, hd]; omega
    by_cases h4 : k = 4
    · skip
      refine wp_seq (rg_c FF5 MM5 [(0, b_ 0), (0, b_ 0), (0, t_ (aG #[iW (fw0 ((invTo x (255 - (k + 1))) * (invTo x (255 - (k + 1))) % pN)), iW (fw1 ((invTo x (255 - (k + 1))) * (invTo x (255 - (k + 1))) % pN)), iW (fw2 ((invTo x (255 - (k + 1))) * (invTo x (255 - (k + 1))) % pN)), iW (fw3 ((invTo x (255 - (k + 1))) * (invTo x (255 - (k + 1))) % pN))])), (0, b_ 0)] 5 [] [] (⟨rfl, rfl, rfl, rfl, (callP_of en_fprod (fprod_any (invTo x (255 - (k + 1))) (invTo x (255 - (k + 1))) (invTo_lt _ _) (invTo_lt _ _)) _), rfl, rfl, rfl, (by kernel_rfl), rfl, fun _ _ FF9 MM9 => then_n ?_⟩))
      have MMr30 : MemS _ _ _ [(bo, oC #[iW (fw0 (invTo x (255 - k))), iW (fw1 (invTo x (255 - k))), iW (fw2 (invTo x (255 - k))), iW (fw3 (invTo x (255 - k)))] 95), _, _] _ := MM9.eqA 0 rfl (by rw [inv_yes x (.inr h4)] <;> rfl)
      refine wp_seq (rg_c FF9 MMr30 [(1, w_ 6), (2, u_ 4 (.bool false))] 5 [18] [] (⟨by omega, (dec_f (by omega)), fun _ _ FF10 MM10 => then_n ?_⟩))
      refine wp_cond_false (FF10.ev 0 rfl) ?_
      refine wp_skip ?_
      refine inb_n (then_n ?_)
      refine rg_c FF10 MM10 [(1, u_ 4 (.int .i64 (((k : Nat) : Int) - 1 : Int)))] 5 [] [] (⟨by omega, by omega, (vZ (by omega)), fun _ _ FF11 MM11 => ?_⟩)
      have hd := cnt_of (FF11.get 0 rfl)
      refine then_n ⟨⟨k, by omega, FF11.pick [0, 1, 2, 3], MM11⟩, ?_⟩
      rw [hc, hd]; omega
    refine wp_seq (rg_c FF5 MM5 [(0, b_ 0), (0, b_ 0), (0, t_ (aG #[iW (fw0 ((invTo x (255 - (k + 1))) * (invTo x (255 - (k + 1))) % pN)), iW (fw1 ((invTo x (255 - (k + 1))) * (invTo x (255 - (k + 1))) % pN)), iW (fw2 ((invTo x (255 - (k + 1))) * (invTo x (255 - (k + 1))) % pN)), iW (fw3 ((invTo x (255 - (k + 1))) * (invTo x (255 - (k + 1))) % pN))])), (0, b_ 0)] 5 [] [] (⟨rfl, rfl, rfl, rfl, (callP_of en_fprod (fprod_any (invTo x (255 - (k + 1))) (invTo x (255 - (k + 1))) (invTo_lt _ _) (invTo_lt _ _)) _), rfl, rfl, rfl, (by kernel_rfl), rfl, fun _ _ FF12 MM12 => then_n ?_⟩))
    refine wp_seq (rg_c FF12 MM12 [(1, w_ 6), (2, w_ 6)] 5 [18] [] (⟨by omega, by omega, fun _ _ FF13 MM13 => then_n ?_⟩))
    refine wp_cond_true (FF13.ev 0 rfl) ?_
    refine rg_c FF13 MM13 [(0, b_ 0), (1, l_ 2 (aG #[iW (fw0 x), iW (fw1 x), iW (fw2 x), iW (fw3 x)])), (0, t_ (aG #[iW (fw0 ((invTo x (255 - (k + 1)) * invTo x (255 - (k + 1)) % pN) * x % pN)), iW (fw1 ((invTo x (255 - (k + 1)) * invTo x (255 - (k + 1)) % pN) * x % pN)), iW (fw2 ((invTo x (255 - (k + 1)) * invTo x (255 - (k + 1)) % pN) * x % pN)), iW (fw3 ((invTo x (255 - (k + 1)) * invTo x (255 - (k + 1)) % pN) * x % pN))])), (0, b_ 0)] 5 [] [] (⟨rfl, rfl, rfl, (part_whole _), rfl, (callP_of en_fprod (fprod_any (invTo x (255 - (k + 1)) * invTo x (255 - (k + 1)) % pN) x (Nat.lt_trans (Nat.mod_lt _ (by decide)) pN_top) hx) _), rfl, rfl, rfl, (by kernel_rfl), rfl, fun _ _ FF14 MM14 => ?_⟩)
    have MMr43 : MemS _ _ _ [(bo, oC #[iW (fw0 (invTo x (255 - k))), iW (fw1 (invTo x (255 - k))), iW (fw2 (invTo x (255 - k))), iW (fw3 (invTo x (255 - k)))] 95), _, _] _ := MM14.eqA 0 rfl (by rw [inv_no x h2 h4 (by omega)] <;> rfl)
    refine inb_n (then_n ?_)
    refine rg_c FF14 MMr43 [(1, u_ 4 (.int .i64 (((k : Nat) : Int) - 1 : Int)))] 5 [] [] (⟨by omega, by omega, (vZ (by omega)), fun _ _ FF15 MM15 => ?_⟩)
    have hd := cnt_of (FF15.get 0 rfl)
    refine then_n ⟨⟨k, by omega, FF15.pick [0, 1, 2, 3], MM15⟩, ?_⟩
    rw [hc, hd]; omega
  · skip
    refine then_n (.inr ⟨(FF5.ev 0 rfl).trans (dec_f hlt), ?_⟩)
    obtain rfl : k = 0 := by omega
    refine then_n ?_
    refine wp_seq (rg_c FF5 MM5 [(0, b_ 0), (0, t_ (aG #[iW (fw0 (invTo x (255 - 0))), iW (fw1 (invTo x (255 - 0))), iW (fw2 (invTo x (255 - 0))), iW (fw3 (invTo x (255 - 0)))])), (0, b_ 1)] 5 [] [] (⟨rfl, rfl, (Eq.trans (show _ = some (#[iW (fw0 (invTo x (255 - 0))), iW (fw1 (invTo x (255 - 0))), iW (fw2 (invTo x (255 - 0))), iW (fw3 (invTo x (255 - 0)))] : Array Value) by kernel_rfl) (congrArg some (Value.agg.inj rfl))), rfl, rfl, rfl, (by kernel_rfl), rfl, fun _ _ FF16 MM16 => then_n ?_⟩))
    refine wp_ret ?_
    repeat first | refine then_ret ?_ | refine inb_ret ?_
    exact (retc FF16 MM16 (k := 4) (i := 1) (j := 2) Tryz.results52 rfl rfl Tryz.underlying97 rfl (by kernel_rfl) rfl ⟨rfl, MM16.below⟩)
end Go.Proofs.YtdjpacgjhcidpabGreatDoor
namespace Go.Proofs.YtdjpacgjhcidpabGreatDoor
open Go.RowKit
def wordTo (ks : List Nat) (f : Nat) : Nat → Nat
  | 0 => 0
  | k + 1 => wordTo ks f k + ks.getD (f + k) 0 * 256 ^ k
def KBytes (ks : List Nat) : Prop := ks.length = 32 ∧ ∀ i, ks.getD i 0 < 256
theorem wordTo_lt {ks : List Nat} (h : KBytes ks) (f : Nat) : ∀ k, wordTo ks f k < 256 ^ k
  | 0 => Nat.one_pos
  | k + 1 => by
    have h1 := wordTo_lt h f k
    have h2 : ks.getD (f + k) 0 * 256 ^ k ≤ 255 * 256 ^ k := Nat.mul_le_mul_right _ (Nat.le_of_lt_succ (h.2 _))
    rw [wordTo, Nat.pow_succ]
    omega
theorem p256 (k : Nat) : 256 ^ k = 2 ^ (8 * k) := by rw [Nat.pow_mul]
theorem wordTo_low {ks : List Nat} (h : KBytes ks) (f : Nat) {k : Nat} (hk : k ≤ 8) : wordTo ks f k < 18446744073709551616 :=
  Nat.lt_of_lt_of_le (wordTo_lt h f k) (Nat.le_trans (Nat.pow_le_pow_right (by decide) hk) (by decide))
theorem word_fit {ks : List Nat} (h : KBytes ks) (f : Nat) {k : Nat} (hk : k < 8) : ks.getD (f + k) 0 * 2 ^ (8 * k) < 18446744073709551616 := by
  have h1 := wordTo_low h f (show k + 1 ≤ 8 from hk)
  rw [wordTo, p256] at h1
  omega
theorem word_or {ks : List Nat} (h : KBytes ks) (f k : Nat) : wordTo ks f k ||| ks.getD (f + k) 0 * 2 ^ (8 * k) = wordTo ks f (k + 1) := by
  rw [or_shl (8 * k) (p256 k ▸ wordTo_lt h f k), wordTo, p256]
def numOf (ks : List Nat) : Nat := mk4 (wordTo ks 0 8) (wordTo ks 8 8) (wordTo ks 16 8) (wordTo ks 24 8 % 9223372036854775808)
theorem numOf_cells {ks : List Nat} (h : KBytes ks) : Value.agg #[iW (wordTo ks 0 8), iW (wordTo ks 8 8), iW (wordTo ks 16 8), iW (wordTo ks 24 8 % 9223372036854775808)] = .agg #[iW (fw0 (numOf ks)), iW (fw1 (numOf ks)), iW (fw2 (numOf ks)), iW (fw3 (numOf ks))] := by
  obtain ⟨a, b, c, d⟩ := w_mk4 (wordTo_low h 0 (Nat.le_refl 8)) (wordTo_low h 8 (Nat.le_refl 8)) (wordTo_low h 16 (Nat.le_refl 8)) (Nat.lt_of_lt_of_le (Nat.mod_lt (wordTo ks 24 8) (show 0 < 9223372036854775808 by decide)) (by decide))
  rw [numOf, a, b, c, d]
theorem numOf_lt {ks : List Nat} (h : KBytes ks) : numOf ks < top4 := mk4_lt (wordTo_low h 0 (Nat.le_refl 8)) (wordTo_low h 8 (Nat.le_refl 8)) (wordTo_low h 16 (Nat.le_refl 8)) (Nat.lt_of_lt_of_le (Nat.mod_lt (wordTo ks 24 8) (show 0 < 9223372036854775808 by decide)) (by decide))
def wq (x q : Nat) : Nat := if q = 0 then fw0 x else if q = 1 then fw1 x else if q = 2 then fw2 x else fw3 x
/-- Byte j of a number. -/
def kb (x j : Nat) : Nat := wq x (j / 8) / 256 ^ (j % 8) % 256
def keyL (x : Nat) : List Nat := (List.range 32).map (kb x)
theorem kb_at {x i q : Nat} (h : i < 8) {v : Nat} (hv : wq x q = v) : v / 2 ^ (8 * i) % 256 = kb x (i + 8 * q) := by
  rw [kb, show (i + 8 * q) / 8 = q by omega, show (i + 8 * q) % 8 = i by omega, p256, hv]
def keyT (x i : Nat) : List Nat := (List.range 32).map fun j => if j % 8 < i then kb x j else 0
theorem keyT_len (x i : Nat) : (keyT x i).length = 32 := by simp [keyT]
theorem keyT_get (x i : Nat) {j : Nat} (h : j < 32) : (keyT x i).getD j 0 = if j % 8 < i then kb x j else 0 := by simp [keyT, h]
theorem keyT_all (x : Nat) : keyT x 8 = keyL x := List.map_congr_left fun j _ => if_pos (Nat.mod_lt _ (by decide))
theorem keyT_step (x : Nat) {i : Nat} (hi : i < 8) : ((((keyT x i).set i (kb x (i + 8 * 0))).set (i + 8) (kb x (i + 8 * 1))).set (i + 16) (kb x (i + 8 * 2))).set (i + 24) (kb x (i + 8 * 3)) = keyT x (i + 1) := by
  refine ext_getD (by simp [keyT]) fun j hj => ?_
  simp only [List.length_set, keyT_len] at hj
  simp only [getD_set, List.length_set, keyT_len]
  rw [keyT_get x i hj, keyT_get x (i + 1) hj]
  by_cases h3 : i + 24 = j
  · rw [if_pos ⟨h3, by omega⟩, if_pos (by omega), ← h3]
  rw [if_neg (fun q => h3 q.1)]
  by_cases h2 : i + 16 = j
  · rw [if_pos ⟨h2, by omega⟩, if_pos (by omega), ← h2]
  rw [if_neg (fun q => h2 q.1)]
  by_cases h1 : i + 8 = j
  · rw [if_pos ⟨h1, by omega⟩, if_pos (by omega), ← h1]
  rw [if_neg (fun q => h1 q.1)]
  by_cases h0 : i = j
  · rw [if_pos ⟨h0, by omega⟩, if_pos (by omega), ← h0]; rfl
  rw [if_neg (fun q => h0 q.1)]
  by_cases h : j % 8 < i
  · rw [if_pos h, if_pos (by omega)]
  · rw [if_neg h, if_neg (by omega)]
set_option maxRecDepth 100000 in
theorem fword_any (ks : List Nat) (hk : KBytes ks) (f : Nat) (hf : f ≤ 24) (w0 : World) :
    Calls Tryz.prog 72 #[.agg (cn .u8 ks), iN f] w0 fun e w' => e = .returned (iW (wordTo ks f 8)) ∧ Below w0.heap.size w0 w' := by
  refine enter_fr Tryz.func72 rfl Tryz.ntmps72 (by simp) fun ac (FF : Fr 23 ac [(0, .agg (cn .u8 ks)), (1, iN f)]) => ?_
  have MM := MemS.start w0
  refine wp_seq (rg_c FF MM [(0, s_ 0 (.cells (cn .u8 ks) 23))] 5 [] [0] (⟨(by kernel_rfl), fun bk => fun _ _ FF1 MM1 => then_n ?_⟩))
  refine wp_seq (rg_c FF1 MM1 [] 6 [] [] (fun _ _ FF2 MM2 => then_n ?_))
  refine wp_seq ?_
  refine wp_seq (rg_c FF2 MM2 [] 8 [] [] (fun _ _ FF3 MM3 => then_n ?_))
  refine wp_for (fun a' w' => ∃ i : Nat, i ≤ 8 ∧ Fr 23 a' [(7, iN i), (5, iW (wordTo ks f i)), (4, iW 0), (2, pT bk), (1, iN f)] ∧ MemS (fun k => k < w0.heap.size) w0 w' [(bk, .cells (cn .u8 ks) 23)] []) (fun a' _ => (8 - cnt 7 a').toNat) ⟨0, Nat.zero_le _, FF3.pick [0, 1, 2, 3, 4], MM3⟩ ?_
  rintro ac4 wd4 ⟨i, hi, FF4, MM4⟩
  have hc := cnt_of (FF4.get 0 rfl)
  refine rg_c FF4 MM4 [] 9 [] [] (fun _ _ FF5 MM5 => ?_)
  by_cases hlt : i < 8
  · skip
    refine then_n (.inl ⟨(FF5.ev 0 rfl).trans (dec_t hlt), ?_⟩)
    refine wp_seq (rg_c FF5 MM5 [] 8 [] [] (fun _ _ FF6 MM6 => then_n ?_))
    refine rg_c FF6 MM6 [(4, w_ 1), (0, l_ 0 (iB (ks.getD (f + i) 0))), (0, w_ 1), (2, t_ (iW (ks.getD (f + i) 0 * 2 ^ (8 * i)))), (0, t_ (iW (wordTo ks f (i + 1))))] 8 [] [] (⟨by omega, by omega, rfl, (cn_get _ _ _ (by rw [hk.1]; omega)), (by have := hk.2 (f + i); omega), by omega, (vI (Nat.mod_eq_of_lt (word_fit hk f (by omega)))), (wordTo_low hk f hi), (word_fit hk f (by omega)), (vI (word_or hk f i)), fun _ _ FF7 MM7 => ?_⟩)
    refine inb_n (then_n ?_)
    refine rg_c FF7 MM7 [] 8 [] [] (⟨by omega, fun _ _ FF8 MM8 => ?_⟩)
    have hd := cnt_of (FF8.get 0 rfl)
    refine then_n ⟨⟨i + 1, by omega, FF8.pick [0, 1, 3, 4, 5], MM8⟩, ?_⟩
    rw [hc, hd]; omega
  · skip
    refine then_n (.inr ⟨(FF5.ev 0 rfl).trans (dec_f hlt), ?_⟩)
    obtain rfl : i = 8 := by omega
    refine then_n ?_
    refine wp_seq (rg_c FF5 MM5 [] 8 [] [] (fun _ _ FF9 MM9 => then_n ?_))
    refine wp_ret ?_
    repeat first | refine then_ret ?_ | refine inb_ret ?_
    exact (ret_fr FF9 0 Tryz.results72 rfl ⟨rfl, MM9.below⟩)
set_option maxRecDepth 100000 in
theorem fOf_any (ks : List Nat) (hk : KBytes ks) (w0 : World) :
    Calls Tryz.prog 47 #[.agg (cn .u8 ks)] w0 fun e w' => e = .returned (.agg #[iW (fw0 (numOf ks % pN)), iW (fw1 (numOf ks % pN)), iW (fw2 (numOf ks % pN)), iW (fw3 (numOf ks % pN))]) ∧ Below w0.heap.size w0 w' := by
  refine enter_fr Tryz.func47 rfl Tryz.ntmps47 (by simp) fun ac (FF : Fr 17 ac [(0, .agg (cn .u8 ks))]) => ?_
  have MM := MemS.start w0
  refine wp_seq (rg_c FF MM [(0, s_ 0 (.cells (cn .u8 ks) 23))] 3 [] [0] (⟨(by kernel_rfl), fun bk => fun br => fun _ _ FF1 MM1 => then_n ?_⟩))
  refine wp_seq (rg_draw FF1 MM1 [.inl (.agg (cn .u8 ks)), .inl (iW (wordTo ks 0 8)), .inl (.agg (cn .u8 ks)), .inl (iW (wordTo ks 8 8)), .inl (.agg (cn .u8 ks)), .inl (iW (wordTo ks 16 8)), .inl (.agg (cn .u8 ks)), .inl (iW (wordTo ks 24 8)), .inl (iW (wordTo ks 24 8 % 9223372036854775808)), .inl (aG #[iW (fw0 (numOf ks)), iW (fw1 (numOf ks)), iW (fw2 (numOf ks)), iW (fw3 (numOf ks))]), .inr (oC #[iW 0, iW 0, iW 0, iW 0] 95, fun b => pT b)] [10] [b_ 1, t_ (iW (wordTo ks 0 8)), b_ 1, t_ (iW (wordTo ks 8 8)), b_ 1, t_ (iW (wordTo ks 16 8)), b_ 1, t_ (iW (wordTo ks 24 8)), f_ (iW (wordTo ks 24 8 % 9223372036854775808)), t_ (aG #[iW (fw0 (numOf ks)), iW (fw1 (numOf ks)), iW (fw2 (numOf ks)), iW (fw3 (numOf ks))]), o_] [b_ 0] [2, 3] (fun nb => [bk = bk, (cn .u8 ks).size = 32, CallP Tryz.prog 72 [.agg (cn .u8 ks), iN 0] [] (iW (wordTo ks 0 8)), bk = bk, (cn .u8 ks).size = 32, CallP Tryz.prog 72 [.agg (cn .u8 ks), iN 8] [] (iW (wordTo ks 8 8)), bk = bk, (cn .u8 ks).size = 32, CallP Tryz.prog 72 [.agg (cn .u8 ks), iN 16] [] (iW (wordTo ks 16 8)), bk = bk, (cn .u8 ks).size = 32, CallP Tryz.prog 72 [.agg (cn .u8 ks), iN 24] [] (iW (wordTo ks 24 8)), RunV Tryz.prog [(11, iW (wordTo ks 24 8)), (2, pT br), (1, pT bk)] [(br, oC #[iW 0, iW 0, iW 0, iW 0] 97), (bk, .cells (cn .u8 ks) 23)] (opAt Tryz.f47 1 8) (iW (wordTo ks 24 8 % 9223372036854775808)), aG #[iW (wordTo ks 0 8), iW (wordTo ks 8 8), iW (wordTo ks 16 8), iW (wordTo ks 24 8 % 9223372036854775808)] = aG #[iW (fw0 (numOf ks)), iW (fw1 (numOf ks)), iW (fw2 (numOf ks)), iW (fw3 (numOf ks))]]) (fun nb Kt => (nb 10) = (nb 10) ∧ (#[iW 0, iW 0, iW 0, iW 0] : Array Value).size = 4 ∧ (#[iW (fw0 (numOf ks)), iW (fw1 (numOf ks)), iW (fw2 (numOf ks)), iW (fw3 (numOf ks))] : Array Value).size = 4 ∧ (#[iW (fw0 (numOf ks)), iW (fw1 (numOf ks)), iW (fw2 (numOf ks)), iW (fw3 (numOf ks))] : Array Value).all (·.oneCell') = true ∧ (0, 0).2 = 0 ∧ Kt [(3, pT (nb 10)), (2, pT br)] [((nb 10), oC #[iW (fw0 (numOf ks)), iW (fw1 (numOf ks)), iW (fw2 (numOf ks)), iW (fw3 (numOf ks))] 95), (br, oC #[iW 0, iW 0, iW 0, iW 0] 97), (bk, .cells (cn .u8 ks) 23)]) (by kernel_rfl) (by kernel_rfl) (by kernel_rfl) (fun _ => by kernel_rfl) (fun _ _ => by kernel_rfl) ⟨⟨_, rfl⟩, rfl, trivial⟩ (fun nb => ⟨rfl, ((cn_size _ _).trans hk.1), (callP_of en_fword (fword_any ks hk 0 (by decide)) _), rfl, ((cn_size _ _).trans hk.1), (callP_of en_fword (fword_any ks hk 8 (by decide)) _), rfl, ((cn_size _ _).trans hk.1), (callP_of en_fword (fword_any ks hk 16 (by decide)) _), rfl, ((cn_size _ _).trans hk.1), (callP_of en_fword (fword_any ks hk 24 (by decide)) _), (andNot_ok (t := 24) (t' := 24) (x := (.tmp 11)) (y := (.const (iW 9223372036854775808))) (k := .u64) (a := wordTo ks 24 8) (b := 9223372036854775808) (r := wordTo ks 24 8 % 9223372036854775808) (by kernel_rfl) rfl rfl (andNot_top (wordTo_low hk 24 (Nat.le_refl 8)))), (numOf_cells hk), trivial⟩) (fun nb => ⟨rfl, rfl, rfl, (by kernel_rfl), rfl, fun _ _ FF2 MM2 => then_n ?_⟩))
  generalize nb 10 = bw at *
  refine wp_seq (rg_c FF2 MM2 [(0, b_ 0), (0, t_ (aG #[iW (fw0 (numOf ks % pN)), iW (fw1 (numOf ks % pN)), iW (fw2 (numOf ks % pN)), iW (fw3 (numOf ks % pN))])), (0, t_ (aG #[iW (fw0 (numOf ks % pN)), iW (fw1 (numOf ks % pN)), iW (fw2 (numOf ks % pN)), iW (fw3 (numOf ks % pN))])), (0, b_ 1)] 4 [] [] (⟨rfl, rfl, (by rw [← red0]; exact (callP_of en_fsettle (fsettle_any (numOf ks) 0 (numOf_lt hk) (Nat.zero_le _)) _)), (Eq.trans (show _ = some (#[iW (fw0 (numOf ks % pN)), iW (fw1 (numOf ks % pN)), iW (fw2 (numOf ks % pN)), iW (fw3 (numOf ks % pN))] : Array Value) by kernel_rfl) (congrArg some (Value.agg.inj rfl))), rfl, rfl, rfl, (by kernel_rfl), rfl, fun _ _ FF3 MM3 => then_n ?_⟩))
  refine wp_ret ?_
  repeat first | refine then_ret ?_ | refine inb_ret ?_
  exact (retc FF3 MM3 (k := 4) (i := 1) (j := 1) Tryz.results47 rfl rfl Tryz.underlying97 rfl (by kernel_rfl) rfl ⟨rfl, MM3.below⟩)
set_option maxRecDepth 100000 in
theorem fKey_any (x : Nat) (w0 : World) :
    Calls Tryz.prog 53 #[.agg #[iW (fw0 x), iW (fw1 x), iW (fw2 x), iW (fw3 x)]] w0 fun e w' => e = .returned (.agg (cn .u8 (keyL x))) ∧ Below w0.heap.size w0 w' := by
  refine enter_fr Tryz.func53 rfl Tryz.ntmps53 (by simp) fun ac (FF : Fr 49 ac [(0, aG #[iW (fw0 x), iW (fw1 x), iW (fw2 x), iW (fw3 x)])]) => ?_
  have MM := MemS.start w0
  refine wp_seq (rg_c FF MM [(1, s_ 0 (.cells (cn .u8 (List.replicate 32 0)) 23))] 3 [] [0] (fun bx => ⟨(by kernel_rfl), fun br => fun _ _ FF1 MM1 => then_n ?_⟩))
  refine wp_seq (rg_c FF1 MM1 [(0, s_ 0 (.cells (cn .u8 (List.replicate 32 0)) 23))] 4 [] [] (⟨(by kernel_rfl), fun bo => fun _ _ FF2 MM2 => then_n ?_⟩))
  have MMr4 : MemS _ _ _ [(bo, .cells (cn .u8 (keyT x 0)) 23), _, _] _ := MM2
  refine wp_seq ?_
  refine wp_seq (rg_c FF2 MMr4 [] 6 [] [] (fun _ _ FF3 MM3 => then_n ?_))
  refine wp_for (fun a' w' => ∃ i : Nat, i ≤ 8 ∧ Fr 49 a' [(5, iN i), (3, pT bo), (2, pT br), (1, pT bx)] ∧ MemS (fun k => k < w0.heap.size) w0 w' [(bo, .cells (cn .u8 (keyT x i)) 23), (br, .cells (cn .u8 (List.replicate 32 0)) 23), (bx, oC #[iW (fw0 x), iW (fw1 x), iW (fw2 x), iW (fw3 x)] 97)] []) (fun a' _ => (8 - cnt 5 a').toNat) ⟨0, Nat.zero_le _, FF3.pick [0, 1, 2, 3], MM3⟩ ?_
  rintro ac4 wd4 ⟨i, hi, FF4, MM4⟩
  have hc := cnt_of (FF4.get 0 rfl)
  refine rg_c FF4 MM4 [] 7 [] [] (fun _ _ FF5 MM5 => ?_)
  by_cases hlt : i < 8
  · skip
    refine then_n (.inl ⟨(FF5.ev 0 rfl).trans (dec_t hlt), ?_⟩)
    refine wp_seq (rg_c FF5 MM5 [] 6 [] [] (fun _ _ FF6 MM6 => then_n ?_))
    refine wp_seq (rg_c FF6 MM6 [(3, l_ 2 (iW (fw0 x))), (3, t_ (iB (kb x (i + 8 * 0)))), (0, w_ 1), (0, s_ 0 (.cells (cn .u8 ((keyT x i).set i (kb x (i + 8 * 0)))) 23))] 6 [] [] (⟨rfl, rfl, by omega, (by show _ ≤ 64; have := fw0_lt x; omega), (vI (kb_at hlt rfl)), by omega, rfl, (by rw [cn_size, (keyT_len _ _)]; omega), (.inl rfl), (cn_set _ _ _ _), fun _ _ FF7 MM7 => then_n ?_⟩))
    refine wp_seq (rg_c FF7 MM7 [(4, l_ 2 (iW (fw1 x))), (3, t_ (iB (kb x (i + 8 * 1)))), (0, w_ 1), (0, s_ 0 (.cells (cn .u8 (((keyT x i).set i (kb x (i + 8 * 0))).set (i + 8) (kb x (i + 8 * 1)))) 23))] 6 [] [] (⟨by omega, rfl, rfl, by omega, (by show _ ≤ 64; have := fw1_lt x; omega), (vI (kb_at hlt rfl)), by omega, rfl, (by rw [cn_size, (len_set (keyT_len _ _))]; omega), (.inl rfl), (cn_set _ _ _ _), fun _ _ FF8 MM8 => then_n ?_⟩))
    refine wp_seq (rg_c FF8 MM8 [(4, l_ 2 (iW (fw2 x))), (3, t_ (iB (kb x (i + 8 * 2)))), (0, w_ 1), (0, s_ 0 (.cells (cn .u8 ((((keyT x i).set i (kb x (i + 8 * 0))).set (i + 8) (kb x (i + 8 * 1))).set (i + 16) (kb x (i + 8 * 2)))) 23))] 6 [] [] (⟨by omega, rfl, rfl, by omega, (by show _ ≤ 64; have := fw2_lt x; omega), (vI (kb_at hlt rfl)), by omega, rfl, (by rw [cn_size, (len_set (len_set (keyT_len _ _)))]; omega), (.inl rfl), (cn_set _ _ _ _), fun _ _ FF9 MM9 => then_n ?_⟩))
    refine rg_c FF9 MM9 [(4, l_ 2 (iW (fw3 x))), (3, t_ (iB (kb x (i + 8 * 3)))), (0, w_ 1), (0, s_ 0 (.cells (cn .u8 (((((keyT x i).set i (kb x (i + 8 * 0))).set (i + 8) (kb x (i + 8 * 1))).set (i + 16) (kb x (i + 8 * 2))).set (i + 24) (kb x (i + 8 * 3)))) 23))] 6 [] [] (⟨by omega, rfl, rfl, by omega, (by show _ ≤ 64; have := fw3_lt x; omega), (vI (kb_at hlt rfl)), by omega, rfl, (by rw [cn_size, (len_set (len_set (len_set (keyT_len _ _))))]; omega), (.inl rfl), (cn_set _ _ _ _), fun _ _ FF10 MM10 => ?_⟩)
    have MMr19 : MemS _ _ _ [(bo, .cells (cn .u8 (keyT x (i + 1))) 23), _, _] _ := MM10.eqA 0 rfl (by rw [← keyT_step x hlt] <;> rfl)
    refine inb_n (then_n ?_)
    refine rg_c FF10 MMr19 [] 6 [] [] (⟨by omega, fun _ _ FF11 MM11 => ?_⟩)
    have hd := cnt_of (FF11.get 0 rfl)
    refine then_n ⟨⟨i + 1, by omega, FF11.pick [0, 2, 3, 4], MM11⟩, ?_⟩
    rw [hc, hd]; omega
  · skip
    refine then_n (.inr ⟨(FF5.ev 0 rfl).trans (dec_f hlt), ?_⟩)
    obtain rfl : i = 8 := by omega
    refine then_n ?_
    refine wp_seq (rg_c FF5 MM5 [(0, b_ 0), (0, b_ 1)] 6 [] [] (⟨rfl, ((cn_size _ _).trans (keyT_len _ _)), rfl, ((cn_size _ _).trans (List.length_replicate ..)), ((cn_size _ _).trans (keyT_len _ _)), (cn_one _ _), rfl, fun _ _ FF12 MM12 => then_n ?_⟩))
    refine wp_ret ?_
    repeat first | refine then_ret ?_ | refine inb_ret ?_
    exact (retc FF12 MM12 (k := 32) (i := 1) (j := 2) Tryz.results53 rfl rfl Tryz.underlying23 rfl (by kernel_rfl) ((cn_size _ _).trans (keyT_len _ _)) ⟨by rw [keyT_all], MM12.below⟩)
end Go.Proofs.YtdjpacgjhcidpabGreatDoor
namespace Go.Proofs.YtdjpacgjhcidpabGreatDoor
open Go.RowKit
def addTo (f : Nat → Nat) : Nat → Nat
  | 0 => f 0
  | i + 1 => (addTo f i + f (i + 1)) % pN
def mulTo (f : Nat → Nat) : Nat → Nat
  | 0 => f 0
  | i + 1 => (mulTo f i) * (f (i + 1)) % pN
theorem addTo_lt {f : Nat → Nat} {n : Nat} (h : ∀ j, j < n → f j < pN) : ∀ i, i < n → addTo f i < pN
  | 0, hi => h 0 hi
  | _ + 1, _ => Nat.mod_lt _ (by decide)
theorem mulTo_lt {f : Nat → Nat} {n : Nat} (h : ∀ j, j < n → f j < pN) : ∀ i, i < n → mulTo f i < pN
  | 0, hi => h 0 hi
  | _ + 1, _ => Nat.mod_lt _ (by decide)
set_option maxHeartbeats 1000000 in
set_option maxRecDepth 100000 in
theorem fAdd_any (f : Nat → Nat) (n cap b : Nat) (cs : Array Value) (fr : Nat × Nat) (h2 : 2 ≤ n) (hn : n ≤ 1000) (hcap : n ≤ cap) (hf : ∀ j, j < n → f j < pN) (hp : ∀ j, j < n → PartAt cs (j * 4) #[iW (fw0 (f j)), iW (fw1 (f j)), iW (fw2 (f j)), iW (fw3 (f j))]) (w0 : World) (hb : w0.heap[b]? = some (.cells cs 97 fr)) :
    Calls Tryz.prog 75 #[.slice (some ⟨b, 0, none⟩) n cap] w0 fun e w' => e = .returned (.agg #[iW (fw0 (addTo f (n - 1))), iW (fw1 (addTo f (n - 1))), iW (fw2 (addTo f (n - 1))), iW (fw3 (addTo f (n - 1)))]) ∧ Below w0.heap.size w0 w' := by
  have MM := MemS.start1 hb
  refine enter_fr Tryz.func75 rfl Tryz.ntmps75 (by simp) fun ac (FF : Fr 29 ac [(0, .slice (some ⟨b, 0, none⟩) n cap)]) => ?_
  refine wp_seq (rg_c FF MM [] 3 [] [] (fun br => fun _ _ FF1 MM1 => then_n ?_))
  refine wp_seq ?_
  refine wp_seq (rg_c FF1 MM1 [(2, w_ 3)] 3 [8] [] (⟨by omega, fun _ _ FF2 MM2 => then_n ?_⟩))
  refine wp_cond_false (FF2.ev 0 rfl) ?_
  refine wp_skip ?_
  refine then_n ?_
  refine wp_seq (rg_c FF2 MM2 [(1, w_ 1), (1, l_ 1 (aG #[iW (fw0 (f 0)), iW (fw1 (f 0)), iW (fw2 (f 0)), iW (fw3 (f 0))])), (1, b_ 0)] 4 [] [] (⟨by omega, rfl, (hp 0 (by omega)), rfl, fun bo => ⟨rfl, rfl, rfl, (by kernel_rfl), rfl, fun _ _ FF3 MM3 => then_n ?_⟩⟩))
  have MMr9 : MemS _ _ _ [(bo, oC #[iW (fw0 (addTo f 0)), iW (fw1 (addTo f 0)), iW (fw2 (addTo f 0)), iW (fw3 (addTo f 0))] 95), _, _] _ := MM3
  refine wp_seq ?_
  refine wp_seq (rg_c FF3 MMr9 [] 18 [] [14] (⟨by omega, by omega, by omega, fun _ _ FF4 MM4 => then_n ?_⟩))
  refine wp_for (fun a' w' => ∃ i : Nat, i ≤ n - 1 ∧ Fr 29 a' [(17, iN i), (16, iN (n - 1)), (15, .slice (some ⟨b, 4, none⟩) (n - 1) (cap - 1)), (3, pT bo), (2, pT br), (0, .slice (some ⟨b, 0, none⟩) n cap)] ∧ MemS (fun k => k < w0.heap.size ∧ k ≠ b) w0 w' [(bo, oC #[iW (fw0 (addTo f i)), iW (fw1 (addTo f i)), iW (fw2 (addTo f i)), iW (fw3 (addTo f i))] 95), (br, oC #[iW 0, iW 0, iW 0, iW 0] 97), (b, .cells cs 97 fr)] []) (fun a' _ => (n - 1 - cnt 17 a').toNat) ⟨0, Nat.zero_le _, FF4.pick [0, 1, 2, 3, 4, 5], MM4⟩ ?_
  rintro ac5 wd5 ⟨i, hi, FF5, MM5⟩
  have hc := cnt_of (FF5.get 0 rfl)
  refine rg_c FF5 MM5 [] 19 [] [] (fun _ _ FF6 MM6 => ?_)
  by_cases hlt : i < (n - 1)
  · skip
    refine then_n (.inl ⟨(FF6.ev 0 rfl).trans (dec_t hlt), ?_⟩)
    have hpi := hp (i + 1) (by omega)
    rw [show (i + 1) * 4 = 4 + i * 4 by omega] at hpi
    have hv := addTo_lt hf i (by omega)
    have hfi := hf (i + 1) (by omega)
    refine wp_seq (rg_c FF6 MM6 [(1, l_ 2 (aG #[iW (fw0 (f (i + 1))), iW (fw1 (f (i + 1))), iW (fw2 (f (i + 1))), iW (fw3 (f (i + 1)))])), (1, b_ 0)] 18 [] [] (⟨by omega, rfl, hpi, rfl, fun be => ⟨rfl, rfl, rfl, (by kernel_rfl), rfl, fun _ _ FF7 MM7 => then_n ?_⟩⟩))
    have hsm : addTo f i + f (i + 1) < top4 := by unfold pN top4 at *; omega
    refine rg_c FF7 MM7 [(0, b_ 1), (1, l_ 0 (aG #[iW (fw0 (f (i + 1))), iW (fw1 (f (i + 1))), iW (fw2 (f (i + 1))), iW (fw3 (f (i + 1)))])), (0, t_ (aG #[iW (fw0 (addTo f i + f (i + 1))), iW (fw1 (addTo f i + f (i + 1))), iW (fw2 (addTo f i + f (i + 1))), iW (fw3 (addTo f i + f (i + 1)))])), (0, t_ (aG #[iW (fw0 (addTo f (i + 1))), iW (fw1 (addTo f (i + 1))), iW (fw2 (addTo f (i + 1))), iW (fw3 (addTo f (i + 1)))])), (0, b_ 1)] 18 [] [] (⟨rfl, rfl, rfl, (part_whole _), rfl, (callP_of en_fplus (fplus_any (addTo f i) (f (i + 1))) _), (by show CallP _ _ _ _ (.agg #[iW (fw0 ((addTo f i + f (i + 1)) % pN)), iW (fw1 ((addTo f i + f (i + 1)) % pN)), iW (fw2 ((addTo f i + f (i + 1)) % pN)), iW (fw3 ((addTo f i + f (i + 1)) % pN))]); rw [← red0]; exact (callP_of en_fsettle (fsettle_any (addTo f i + f (i + 1)) 0 hsm (Nat.zero_le _)) _)), rfl, rfl, rfl, (by kernel_rfl), rfl, fun _ _ FF8 MM8 => ?_⟩)
    refine inb_n (then_n ?_)
    refine rg_c FF8 MM8 [] 18 [] [] (⟨by omega, fun _ _ FF9 MM9 => ?_⟩)
    have hd := cnt_of (FF9.get 0 rfl)
    refine then_n ⟨⟨i + 1, by omega, FF9.pick [0, 2, 3, 4, 5, 6], MM9.sub [1, 2, 3] rfl⟩, ?_⟩
    rw [hc, hd]; omega
  · skip
    refine then_n (.inr ⟨(FF6.ev 0 rfl).trans (dec_f hlt), ?_⟩)
    obtain rfl : i = n - 1 := by omega
    refine then_n ?_
    refine wp_seq (rg_c FF6 MM6 [(0, b_ 0), (0, t_ (aG #[iW (fw0 (addTo f (n - 1))), iW (fw1 (addTo f (n - 1))), iW (fw2 (addTo f (n - 1))), iW (fw3 (addTo f (n - 1)))])), (0, b_ 1)] 18 [] [] (⟨rfl, rfl, (Eq.trans (show _ = some (#[iW (fw0 (addTo f (n - 1))), iW (fw1 (addTo f (n - 1))), iW (fw2 (addTo f (n - 1))), iW (fw3 (addTo f (n - 1)))] : Array Value) by kernel_rfl) (congrArg some (Value.agg.inj rfl))), rfl, rfl, rfl, (by kernel_rfl), rfl, fun _ _ FF10 MM10 => then_n ?_⟩))
    refine wp_ret ?_
    repeat first | refine then_ret ?_ | refine inb_ret ?_
    exact (retc FF10 MM10 (k := 4) (i := 1) (j := 4) Tryz.results75 rfl rfl Tryz.underlying97 rfl (by kernel_rfl) rfl ⟨rfl, MM10.below1 2 rfl hb⟩)
set_option maxHeartbeats 1000000 in
set_option maxRecDepth 100000 in
theorem fMul_any (f : Nat → Nat) (n cap b : Nat) (cs : Array Value) (fr : Nat × Nat) (h2 : 2 ≤ n) (hn : n ≤ 1000) (hcap : n ≤ cap) (hf : ∀ j, j < n → f j < pN) (hp : ∀ j, j < n → PartAt cs (j * 4) #[iW (fw0 (f j)), iW (fw1 (f j)), iW (fw2 (f j)), iW (fw3 (f j))]) (w0 : World) (hb : w0.heap[b]? = some (.cells cs 97 fr)) :
    Calls Tryz.prog 51 #[.slice (some ⟨b, 0, none⟩) n cap] w0 fun e w' => e = .returned (.agg #[iW (fw0 (mulTo f (n - 1))), iW (fw1 (mulTo f (n - 1))), iW (fw2 (mulTo f (n - 1))), iW (fw3 (mulTo f (n - 1)))]) ∧ Below w0.heap.size w0 w' := by
  have MM := MemS.start1 hb
  refine enter_fr Tryz.func51 rfl Tryz.ntmps51 (by simp) fun ac (FF : Fr 28 ac [(0, .slice (some ⟨b, 0, none⟩) n cap)]) => ?_
  refine wp_seq (rg_c FF MM [] 3 [] [] (fun br => fun _ _ FF1 MM1 => then_n ?_))
  refine wp_seq ?_
  refine wp_seq (rg_c FF1 MM1 [(2, w_ 3)] 3 [8] [] (⟨by omega, fun _ _ FF2 MM2 => then_n ?_⟩))
  refine wp_cond_false (FF2.ev 0 rfl) ?_
  refine wp_skip ?_
  refine then_n ?_
  refine wp_seq (rg_c FF2 MM2 [(1, w_ 1), (1, l_ 1 (aG #[iW (fw0 (f 0)), iW (fw1 (f 0)), iW (fw2 (f 0)), iW (fw3 (f 0))])), (1, b_ 0)] 4 [] [] (⟨by omega, rfl, (hp 0 (by omega)), rfl, fun bo => ⟨rfl, rfl, rfl, (by kernel_rfl), rfl, fun _ _ FF3 MM3 => then_n ?_⟩⟩))
  have MMr9 : MemS _ _ _ [(bo, oC #[iW (fw0 (mulTo f 0)), iW (fw1 (mulTo f 0)), iW (fw2 (mulTo f 0)), iW (fw3 (mulTo f 0))] 95), _, _] _ := MM3
  refine wp_seq ?_
  refine wp_seq (rg_c FF3 MMr9 [] 18 [] [14] (⟨by omega, by omega, by omega, fun _ _ FF4 MM4 => then_n ?_⟩))
  refine wp_for (fun a' w' => ∃ i : Nat, i ≤ n - 1 ∧ Fr 28 a' [(17, iN i), (16, iN (n - 1)), (15, .slice (some ⟨b, 4, none⟩) (n - 1) (cap - 1)), (3, pT bo), (2, pT br), (0, .slice (some ⟨b, 0, none⟩) n cap)] ∧ MemS (fun k => k < w0.heap.size ∧ k ≠ b) w0 w' [(bo, oC #[iW (fw0 (mulTo f i)), iW (fw1 (mulTo f i)), iW (fw2 (mulTo f i)), iW (fw3 (mulTo f i))] 95), (br, oC #[iW 0, iW 0, iW 0, iW 0] 97), (b, .cells cs 97 fr)] []) (fun a' _ => (n - 1 - cnt 17 a').toNat) ⟨0, Nat.zero_le _, FF4.pick [0, 1, 2, 3, 4, 5], MM4⟩ ?_
  rintro ac5 wd5 ⟨i, hi, FF5, MM5⟩
  have hc := cnt_of (FF5.get 0 rfl)
  refine rg_c FF5 MM5 [] 19 [] [] (fun _ _ FF6 MM6 => ?_)
  by_cases hlt : i < (n - 1)
  · skip
    refine then_n (.inl ⟨(FF6.ev 0 rfl).trans (dec_t hlt), ?_⟩)
    have hpi := hp (i + 1) (by omega)
    rw [show (i + 1) * 4 = 4 + i * 4 by omega] at hpi
    have hv := mulTo_lt hf i (by omega)
    have hfi := hf (i + 1) (by omega)
    refine wp_seq (rg_c FF6 MM6 [(1, l_ 2 (aG #[iW (fw0 (f (i + 1))), iW (fw1 (f (i + 1))), iW (fw2 (f (i + 1))), iW (fw3 (f (i + 1)))])), (1, b_ 0)] 18 [] [] (⟨by omega, rfl, hpi, rfl, fun be => ⟨rfl, rfl, rfl, (by kernel_rfl), rfl, fun _ _ FF7 MM7 => then_n ?_⟩⟩))
    refine rg_c FF7 MM7 [(0, b_ 1), (1, l_ 0 (aG #[iW (fw0 (f (i + 1))), iW (fw1 (f (i + 1))), iW (fw2 (f (i + 1))), iW (fw3 (f (i + 1)))])), (0, t_ (aG #[iW (fw0 ((mulTo f i) * (f (i + 1)) % pN)), iW (fw1 ((mulTo f i) * (f (i + 1)) % pN)), iW (fw2 ((mulTo f i) * (f (i + 1)) % pN)), iW (fw3 ((mulTo f i) * (f (i + 1)) % pN))])), (0, b_ 1)] 18 [] [] (⟨rfl, rfl, rfl, (part_whole _), rfl, (callP_of en_fprod (fprod_any (mulTo f i) (f (i + 1)) (Nat.lt_trans hv pN_top) (Nat.lt_trans hfi pN_top)) _), rfl, rfl, rfl, (by kernel_rfl), rfl, fun _ _ FF8 MM8 => ?_⟩)
    have MMr25 : MemS _ _ _ [_, (bo, oC #[iW (fw0 (mulTo f (i + 1))), iW (fw1 (mulTo f (i + 1))), iW (fw2 (mulTo f (i + 1))), iW (fw3 (mulTo f (i + 1)))] 95), _, _] _ := MM8
    refine inb_n (then_n ?_)
    refine rg_c FF8 MMr25 [] 18 [] [] (⟨by omega, fun _ _ FF9 MM9 => ?_⟩)
    have hd := cnt_of (FF9.get 0 rfl)
    refine then_n ⟨⟨i + 1, by omega, FF9.pick [0, 2, 3, 4, 5, 6], MM9.sub [1, 2, 3] rfl⟩, ?_⟩
    rw [hc, hd]; omega
  · skip
    refine then_n (.inr ⟨(FF6.ev 0 rfl).trans (dec_f hlt), ?_⟩)
    obtain rfl : i = n - 1 := by omega
    refine then_n ?_
    refine wp_seq (rg_c FF6 MM6 [(0, b_ 0), (0, t_ (aG #[iW (fw0 (mulTo f (n - 1))), iW (fw1 (mulTo f (n - 1))), iW (fw2 (mulTo f (n - 1))), iW (fw3 (mulTo f (n - 1)))])), (0, b_ 1)] 18 [] [] (⟨rfl, rfl, (Eq.trans (show _ = some (#[iW (fw0 (mulTo f (n - 1))), iW (fw1 (mulTo f (n - 1))), iW (fw2 (mulTo f (n - 1))), iW (fw3 (mulTo f (n - 1)))] : Array Value) by kernel_rfl) (congrArg some (Value.agg.inj rfl))), rfl, rfl, rfl, (by kernel_rfl), rfl, fun _ _ FF10 MM10 => then_n ?_⟩))
    refine wp_ret ?_
    repeat first | refine then_ret ?_ | refine inb_ret ?_
    exact (retc FF10 MM10 (k := 4) (i := 1) (j := 4) Tryz.results51 rfl rfl Tryz.underlying97 rfl (by kernel_rfl) rfl ⟨rfl, MM10.below1 2 rfl hb⟩)
end Go.Proofs.YtdjpacgjhcidpabGreatDoor
