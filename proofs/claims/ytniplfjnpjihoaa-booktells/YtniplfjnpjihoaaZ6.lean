/- Several texts in one: The answer of the document for layer 4: the tag. The document's ChaCha20: the quarter round. The document's ChaCha20: a block. The document's ChaCha20: the mask. The answer of the document for layer 5. The document's book: where a key stands, what stands for it. The document's book: names, what is noted. -/
import Derived.Test.YtniplfjnpjihoaaZ5
import Derived.Test.YtniplfjnpjihoaaZ3
import Derived.Test.YtniplfjnpjihoaaZ4
namespace Go.Proofs.Ytniplfjnpjihoaa
open Go.RowKit
theorem msk_lt {L : List Nat} {q : Nat → Bool} {c j B : Nat} (h : ∀ i, L.getD i 0 < B) (i : Nat) : (mskL L q c j).getD i 0 < B := by
  rcases Nat.lt_or_ge i 17 with hi | hi
  · rw [mskL_get _ _ _ _ hi]; split
    · exact Nat.lt_of_le_of_lt Nat.and_le_left (h i)
    · exact h i
  · rw [List.getD_eq_getElem?_getD, List.getElem?_eq_none (by rw [mskL_len]; exact hi)]; exact Nat.lt_of_le_of_lt (Nat.zero_le _) (h 0)
theorem sOf_lt {K : List Nat} (hK : Bytes 32 K) : sOf K < 340282366920938463463374607431768211456 := by
  have h1 := leV_lt (K.drop 16) (fun i => by have := hK.lt (16 + i); simpa only [List.getD_eq_getElem?_getD, List.getElem?_drop] using this)
  rw [← sOf_eq hK] at h1
  have : (K.drop 16).length = 16 := by simp [hK.len]
  rw [this] at h1
  exact Nat.lt_of_lt_of_le h1 (by decide)
set_option maxRecDepth 100000 in
set_option maxHeartbeats 2000000 in
theorem rPoly_any (K T : List Nat) (hK : Bytes 32 K) (hT : ∀ i, T.getD i 0 < 256) (hl : T.length < 4611686018427387904) (w0 : World) :
    Calls Try.prog 69 #[.agg (cn .u8 K), sB T] w0 fun e w' => e = .returned (.agg (cn .u8 (polyN K T))) ∧ Below w0.heap.size w0 w' := by
  refine enter_fr Try.func69 rfl Try.ntmps69 (by simp) fun ac (FF : Fr 115 ac [(0, .agg (cn .u8 K)), (1, sB T)]) => ?_
  have MM := MemS.start w0
  refine wp_seq (rg_c FF MM [(0, s_ 0 (.cells (cn .u8 K) 41)), (0, s_ 0 (.cells (cn .u8 (List.replicate 16 0)) 50))] 5 [] [0] (⟨(by kernel_rfl), fun b1 => ⟨(by kernel_rfl), fun b2 => fun _ _ FF1 MM1 => then_n ?_⟩⟩))
  refine wp_seq (rg_c FF1 MM1 [(0, t_ (.agg (cn .u64 (List.replicate 17 0)))), (0, s_ 0 (.cells (cn .u64 (List.replicate 17 0)) 165)), (0, b_ 0)] 6 [] [] (⟨(by kernel_rfl), (by kernel_rfl), fun br => ⟨rfl, ((cn_size _ _).trans (List.length_replicate ..)), ((cn_size _ _).trans (List.length_replicate ..)), (cn_one _ _), rfl, fun _ wd2 FF2 MM2 => then_n ?_⟩⟩))
  have MMr4 : MemS (fun k => k < w0.heap.size) w0 wd2 [(br, .cells (cn .u64 (genL 17 (fun i => K.getD i 0) 0)) 165), (b2, .cells (cn .u8 (List.replicate 16 0)) 50), (b1, .cells (cn .u8 K) 41)] [] := by rw [← genL_zero 17 (fun i => K.getD i 0)]; exact MM2
  refine wp_seq (rg_c FF2 MMr4 [(0, t_ (.agg (cn .u64 (List.replicate 17 0)))), (0, s_ 0 (.cells (cn .u64 (List.replicate 17 0)) 165)), (0, b_ 0)] 7 [] [] (⟨(by kernel_rfl), (by kernel_rfl), fun be => ⟨rfl, ((cn_size _ _).trans (List.length_replicate ..)), ((cn_size _ _).trans (List.length_replicate ..)), (cn_one _ _), rfl, fun _ wd3 FF3 MM3 => then_n ?_⟩⟩))
  have MMr6 : MemS (fun k => k < w0.heap.size) w0 wd3 [(be, .cells (cn .u64 (genL 17 (fun i => K.getD (16 + i) 0) 0)) 165), (br, .cells (cn .u64 (genL 17 (fun i => K.getD i 0) 0)) 165), (b2, .cells (cn .u8 (List.replicate 16 0)) 50), (b1, .cells (cn .u8 K) 41)] [] := by rw [← genL_zero 17 (fun i => K.getD (16 + i) 0)]; exact MM3
  refine wp_seq ?_
  refine wp_seq (rg_c FF3 MMr6 [] 8 [] [] (fun _ _ FF4 MM4 => then_n ?_))
  refine wp_for2 (fun a' w' => ∃ j : Nat, j ≤ 16 ∧ Fr 115 a' [(7, iN j), (6, pT be), (5, pT br), (4, pT b2), (2, pT b1), (1, sB T)] ∧ MemS (fun k => k < w0.heap.size) w0 w' [(be, .cells (cn .u64 (genL 17 (fun i => K.getD (16 + i) 0) j)) 165), (br, .cells (cn .u64 (genL 17 (fun i => K.getD i 0) j)) 165), (b2, .cells (cn .u8 (List.replicate 16 0)) 50), (b1, .cells (cn .u8 K) 41)] []) (fun a' _ => (16 - cnt 7 a').toNat) ⟨0, by omega, FF4.pick [0, 1, 2, 3, 4, 5], MM4⟩ ?_
  rintro ac5 wd5 ⟨j, hj, FF5, MM5⟩
  have hcj := cnt_of (FF5.get 0 rfl)
  refine rg_c FF5 MM5 [] 8 [20] [] (fun _ _ FF6 MM6 => ?_)
  by_cases hltj : j < 16
  · skip
    refine then_n (.inl ⟨(FF6.ev 0 rfl).trans (dec_t hltj), ?_⟩)
    refine wp_seq (rg_c FF6 MM6 [(2, w_ 1), (0, l_ 3 (iB (K.getD j 0))), (0, w_ 1), (0, w_ 1), (0, s_ 1 (.cells (cn .u64 (genL 17 (fun i => K.getD i 0) (j + 1))) 165))] 8 [] [] (⟨by omega, rfl, (cn_get _ _ _ (by rw [hK.len]; omega)), (by have := hK.lt j; omega), by omega, rfl, (by rw [cn_size, (genL_len _ _ _)]; omega), (.inl rfl), ((cn_set _ _ _ _).trans (congrArg _ (genL_step _ _ j (by omega) rfl))), fun _ _ FF7 MM7 => then_n ?_⟩))
    refine rg_c FF7 MM7 [(3, w_ 1), (0, l_ 3 (iB (K.getD (16 + j) 0))), (0, w_ 1), (0, w_ 1), (0, s_ 0 (.cells (cn .u64 (genL 17 (fun i => K.getD (16 + i) 0) (j + 1))) 165))] 8 [] [] (⟨by omega, by omega, rfl, (cn_get _ _ _ (by rw [hK.len]; omega)), (by have := hK.lt (16 + j); omega), by omega, rfl, (by rw [cn_size, (genL_len _ _ _)]; omega), (.inl rfl), ((cn_set _ _ _ _).trans (congrArg _ (genL_step _ _ j (by omega) rfl))), fun _ _ FF8 MM8 => ?_⟩)
    refine inb_n (then_n ?_)
    refine rg_c FF8 MM8 [] 8 [] [] (⟨by omega, fun _ _ FF9 MM9 => ?_⟩)
    have hdj := cnt_of (FF9.get 0 rfl)
    refine then_n ⟨⟨j + 1, by omega, FF9.pick [0, 1, 2, 3, 4, 5], MM9⟩, ?_⟩
    rw [hcj, hdj]; omega
  · skip
    refine then_n (.inr ⟨(FF6.ev 0 rfl).trans (dec_f hltj), ?_⟩)
    obtain rfl : j = 16 := by omega
    refine then_n ?_
    refine wp_seq ?_
    refine wp_seq (rg_c FF6 MM6 [] 9 [] [] (fun _ wd10 FF10 MM10 => then_n ?_))
    have MMr : MemS (fun k => k < w0.heap.size) w0 wd10 [(be, .cells (cn .u64 (genL 17 (fun i => K.getD (16 + i) 0) 16)) 165), (br, .cells (cn .u64 (mskL (keyL K) q3 15 3)) 165), (b2, .cells (cn .u8 (List.replicate 16 0)) 50), (b1, .cells (cn .u8 K) 41)] [] := by rw [mskL_start (L := keyL K) (genL_len _ _ _) q3 15 3 (fun i hi => by simp [q3] <;> omega)]; exact MM10
    refine wp_for2 (fun a' w' => ∃ j : Nat, j ≤ 4 ∧ Fr 115 a' [(8, iN (4 * j + 3)), (7, iN 16), (6, pT be), (5, pT br), (4, pT b2), (2, pT b1), (1, sB T)] ∧ MemS (fun k => k < w0.heap.size) w0 w' [(be, .cells (cn .u64 (genL 17 (fun i => K.getD (16 + i) 0) 16)) 165), (br, .cells (cn .u64 (mskL (keyL K) q3 15 (4 * j + 3))) 165), (b2, .cells (cn .u8 (List.replicate 16 0)) 50), (b1, .cells (cn .u8 K) 41)] []) (fun a' _ => (20 - cnt 8 a').toNat) ⟨0, by omega, FF10.pick [0, 1, 2, 3, 4, 5, 6], MMr⟩ ?_
    rintro ac11 wd11 ⟨j, hj, FF11, MM11⟩
    have hcj := cnt_of (FF11.get 0 rfl)
    refine rg_c FF11 MM11 [] 9 [37] [] (fun _ _ FF12 MM12 => ?_)
    by_cases hltj : (4 * j + 3) < 16
    · skip
      refine then_n (.inl ⟨(FF12.ev 0 rfl).trans (dec_t hltj), ?_⟩)
      have hb : (mskL (keyL K) q3 15 (4 * j + 3)).getD (4 * j + 3) 0 < 256 := msk_lt (genL_lt (by decide) hK.lt 16) _
      refine rg_c FF12 MM12 [(1, w_ 1), (0, l_ 1 (iW ((mskL (keyL K) q3 15 (4 * j + 3)).getD (4 * j + 3) 0))), (1, w_ 1), (0, s_ 1 (.cells (cn .u64 (mskL (keyL K) q3 15 (4 * (j + 1) + 3))) 165))] 9 [] [] (⟨by omega, rfl, (cn_get _ _ _ (by rw [(mskL_len _ _ _ _)]; omega)), by omega, by decide, by omega, rfl, (by rw [cn_size, (mskL_len _ _ _ _)]; omega), (.inl rfl), ((cn_set _ _ _ _).trans (congrArg _ (mskL_step _ _ _ _ _ (by omega) (by simp [q3] <;> omega) (by omega) (fun i h1 h2 => by simp [q3] <;> omega)))), fun _ _ FF13 MM13 => ?_⟩)
      refine inb_n (then_n ?_)
      refine rg_c FF13 MM13 [(1, t_ (iN (4 * (j + 1) + 3)))] 9 [] [] (⟨by omega, (vI (by omega)), fun _ _ FF14 MM14 => ?_⟩)
      have hdj := cnt_of (FF14.get 0 rfl)
      refine then_n ⟨⟨j + 1, by omega, FF14.pick [0, 1, 2, 3, 4, 5, 6], MM14⟩, ?_⟩
      rw [hcj, hdj]; omega
    · skip
      refine then_n (.inr ⟨(FF12.ev 0 rfl).trans (dec_f hltj), ?_⟩)
      obtain rfl : j = 4 := by omega
      refine then_n ?_
      refine wp_seq ?_
      refine wp_seq (rg_c FF12 MM12 [] 9 [9] [] (fun _ wd15 FF15 MM15 => then_n ?_))
      have MMr2 : MemS (fun k => k < w0.heap.size) w0 wd15 [(be, .cells (cn .u64 (genL 17 (fun i => K.getD (16 + i) 0) 16)) 165), (br, .cells (cn .u64 (mskL (mskL (keyL K) q3 15 19) q0 252 (4 * 1))) 165), (b2, .cells (cn .u8 (List.replicate 16 0)) 50), (b1, .cells (cn .u8 K) 41)] [] := by rw [mskL_start (L := mskL (keyL K) q3 15 19) (mskL_len _ _ _ _) q0 252 (4 * 1) (fun i hi => by simp [q0] <;> omega)]; exact MM15
      refine wp_for2 (fun a' w' => ∃ i : Nat, (0 < i ∧ i ≤ 4) ∧ Fr 115 a' [(9, iN (4 * i)), (8, iN (4 * 4 + 3)), (7, iN 16), (6, pT be), (5, pT br), (4, pT b2), (2, pT b1), (1, sB T)] ∧ MemS (fun k => k < w0.heap.size) w0 w' [(be, .cells (cn .u64 (genL 17 (fun i => K.getD (16 + i) 0) 16)) 165), (br, .cells (cn .u64 (mskL (mskL (keyL K) q3 15 19) q0 252 (4 * i))) 165), (b2, .cells (cn .u8 (List.replicate 16 0)) 50), (b1, .cells (cn .u8 K) 41)] []) (fun a' _ => (20 - cnt 9 a').toNat) ⟨1, by omega, FF15.pick [0, 1, 2, 3, 4, 5, 6, 7], MMr2⟩ ?_
      rintro ac16 wd16 ⟨i, hi, FF16, MM16⟩
      have hci := cnt_of (FF16.get 0 rfl)
      refine rg_c FF16 MM16 [] 10 [46] [] (fun _ wd17 FF17 MM17 => ?_)
      by_cases hlti : (4 * i) < 16
      · skip
        refine then_n (.inl ⟨(FF17.ev 0 rfl).trans (dec_t hlti), ?_⟩)
        have hb : (mskL (mskL (keyL K) q3 15 19) q0 252 (4 * i)).getD (4 * i) 0 < 256 := msk_lt (msk_lt (genL_lt (by decide) hK.lt 16)) _
        refine rg_c FF17 MM17 [(1, w_ 1), (0, l_ 1 (iW ((mskL (mskL (keyL K) q3 15 19) q0 252 (4 * i)).getD (4 * i) 0))), (1, w_ 1), (0, s_ 1 (.cells (cn .u64 (mskL (mskL (keyL K) q3 15 19) q0 252 (4 * (i + 1)))) 165))] 9 [9] [] (⟨by omega, rfl, (cn_get _ _ _ (by rw [(mskL_len _ _ _ _)]; omega)), by omega, by decide, by omega, rfl, (by rw [cn_size, (mskL_len _ _ _ _)]; omega), (.inl rfl), ((cn_set _ _ _ _).trans (congrArg _ (mskL_step _ _ _ _ _ (by omega) (by simp [q0] <;> omega) (by omega) (fun z h1 h2 => by simp [q0] <;> omega)))), fun _ _ FF18 MM18 => ?_⟩)
        refine inb_n (then_n ?_)
        refine rg_c FF18 MM18 [(1, t_ (iN (4 * (i + 1))))] 9 [9] [] (⟨by omega, (vI (by omega)), fun _ _ FF19 MM19 => ?_⟩)
        have hdi := cnt_of (FF19.get 0 rfl)
        refine then_n ⟨⟨i + 1, by omega, FF19.pick [0, 1, 2, 3, 4, 5, 6, 7], MM19⟩, ?_⟩
        rw [hci, hdi]; omega
      · skip
        refine then_n (.inr ⟨(FF17.ev 0 rfl).trans (dec_f hlti), ?_⟩)
        obtain rfl : i = 4 := by omega
        have eR := rL_dig hK
        have eE := endL_dig hK
        have MMk : MemS (fun k => k < w0.heap.size) w0 wd17 [(be, .cells (cn .u64 (dig (sOf K))) 165), (br, .cells (cn .u64 (dig (rOf K))) 165), (b2, .cells (cn .u8 (List.replicate 16 0)) 50), (b1, .cells (cn .u8 K) 41)] [] := by rw [← eR, ← eE]; exact MM17
        refine then_n ?_
        refine wp_seq (rg_c FF17 MMk [(0, t_ (.agg (cn .u64 (List.replicate 17 0)))), (0, s_ 0 (.cells (cn .u64 (List.replicate 17 0)) 165)), (0, b_ 0)] 11 [] [] (⟨(by kernel_rfl), (by kernel_rfl), fun bh => ⟨rfl, ((cn_size _ _).trans (List.length_replicate ..)), ((cn_size _ _).trans (List.length_replicate ..)), (cn_one _ _), rfl, fun _ wd20 FF20 MM20 => then_n ?_⟩⟩))
        have MMh : MemS (fun k => k < w0.heap.size) w0 wd20 [(bh, .cells (cn .u64 (dig (mK (rOf K) T 0))) 165), (be, .cells (cn .u64 (dig (sOf K))) 165), (br, .cells (cn .u64 (dig (rOf K))) 165), (b2, .cells (cn .u8 (List.replicate 16 0)) 50), (b1, .cells (cn .u8 K) 41)] [] := by rw [show dig (mK (rOf K) T 0) = List.replicate 17 0 from (by kernel_rfl)]; exact MM20
        refine wp_seq ?_
        refine wp_seq (rg_c FF20 MMh [] 12 [] [] (fun _ _ FF21 MM21 => then_n ?_))
        refine wp_for2 (fun a' w' => ∃ k : Nat, (k = 0 ∨ 16 * (k - 1) < T.length) ∧ Fr 115 a' [(11, iN (16 * k)), (10, pT bh), (9, iN (4 * 4)), (8, iN (4 * 4 + 3)), (7, iN 16), (6, pT be), (5, pT br), (4, pT b2), (2, pT b1), (1, sB T)] ∧ MemS (fun k => k < w0.heap.size) w0 w' [(bh, .cells (cn .u64 (dig (mK (rOf K) T k))) 165), (be, .cells (cn .u64 (dig (sOf K))) 165), (br, .cells (cn .u64 (dig (rOf K))) 165), (b2, .cells (cn .u8 (List.replicate 16 0)) 50), (b1, .cells (cn .u8 K) 41)] []) (fun a' _ => (T.length + 16 - cnt 11 a').toNat) ⟨0, .inl rfl, FF21.pick [0, 1, 2, 3, 4, 5, 6, 7, 8, 9], MM21⟩ ?_
        rintro ac22 wd22 ⟨k, hk, FF22, MM22⟩
        have hck := cnt_of (FF22.get 0 rfl)
        have hmk := mK_lt (rOf_lt K) hT k
        refine rg_c FF22 MM22 [(2, t_ (iN T.length))] 12 [58] [] (⟨(vI (bs_size _)), fun _ _ FF23 MM23 => ?_⟩)
        by_cases hltk : (16 * k) < T.length
        · skip
          refine then_n (.inl ⟨(FF23.ev 0 rfl).trans (dec_t hltk), ?_⟩)
          refine wp_seq (rg_c FF23 MM23 [(0, t_ (.agg (cn .u64 (List.replicate 17 0)))), (0, s_ 0 (.cells (cn .u64 (List.replicate 17 0)) 165)), (0, b_ 0)] 13 [] [] (⟨(by kernel_rfl), (by kernel_rfl), fun bc => ⟨rfl, ((cn_size _ _).trans (List.length_replicate ..)), ((cn_size _ _).trans (List.length_replicate ..)), (cn_one _ _), rfl, fun _ wd24 FF24 MM24 => then_n ?_⟩⟩))
          have MMr85 : MemS (fun k => k < w0.heap.size) w0 wd24 [(bc, .cells (cn .u64 (genL 17 (fun i => ((T.drop (16 * k)).take 16).getD i 0) 0)) 165), (bh, .cells (cn .u64 (dig (mK (rOf K) T k))) 165), (be, .cells (cn .u64 (dig (sOf K))) 165), (br, .cells (cn .u64 (dig (rOf K))) 165), (b2, .cells (cn .u8 (List.replicate 16 0)) 50), (b1, .cells (cn .u8 K) 41)] [] := by rw [← genL_zero 17 (fun i => ((T.drop (16 * k)).take 16).getD i 0)]; exact MM24
          refine wp_seq (rg_c FF24 MMr85 [] 14 [] [] (fun _ _ FF25 MM25 => then_n ?_))
          refine wp_seq ?_
          refine wp_for2w (fun a' w' => ∃ n : Nat, (n ≤ 16 ∧ 16 * k + n ≤ T.length) ∧ Fr 115 a' [(13, iN n), (12, pT bc), (11, iN (16 * k)), (10, pT bh), (9, iN (4 * 4)), (8, iN (4 * 4 + 3)), (7, iN 16), (6, pT be), (5, pT br), (4, pT b2), (2, pT b1), (1, sB T)] ∧ MemS (fun k => k < w0.heap.size) w0 w' [(bc, .cells (cn .u64 (genL 17 (fun i => ((T.drop (16 * k)).take 16).getD i 0) n)) 165), (bh, .cells (cn .u64 (dig (mK (rOf K) T k))) 165), (be, .cells (cn .u64 (dig (sOf K))) 165), (br, .cells (cn .u64 (dig (rOf K))) 165), (b2, .cells (cn .u8 (List.replicate 16 0)) 50), (b1, .cells (cn .u8 K) 41)] []) (fun a' _ => (16 - cnt 13 a').toNat) ⟨0, by omega, FF25.pick [0, 1, 2, 3, 4, 5, 6, 7, 8, 9, 10, 11], MM25⟩ ?_
          rintro ac26 wd26 ⟨n, hn, FF26, MM26⟩
          have hcn := cnt_of (FF26.get 0 rfl)
          by_cases h1 : n < 16
          · by_cases h2 : 16 * k + n < T.length
            · skip
              refine rg_c FF26 MM26 [(1, w_ 2), (5, t_ (iN T.length)), (0, w_ 2)] 14 [71] [] (⟨by omega, by omega, (vI (bs_size _)), by omega, fun _ _ FF27 MM27 => ?_⟩)
              refine then_n (.inl ⟨FF27.ev 0 rfl, ?_⟩)
              have hb : T.getD (16 * k + n) 0 = ((T.drop (16 * k)).take 16).getD n 0 := by simp [h1]
              refine wp_seq (rg_c FF27 MM27 [(5, t_ (iB (T.getD ((16 * k) + n) 0))), (0, w_ 1), (0, w_ 1), (0, s_ 0 (.cells (cn .u64 (genL 17 (fun i => ((T.drop (16 * k)).take 16).getD i 0) (n + 1))) 165))] 14 [] [] (⟨by omega, (by simp only [bs_size]; omega), (byte_bs hT _), (by have := hT ((16 * k) + n); omega), by omega, rfl, (by rw [cn_size, (genL_len _ _ _)]; omega), (.inl rfl), ((cn_set _ _ _ _).trans (congrArg _ (genL_step _ _ n (by omega) hb))), fun _ _ FF28 MM28 => then_n ?_⟩))
              refine rg_c FF28 MM28 [] 14 [] [] (⟨by omega, fun _ _ FF29 MM29 => ?_⟩)
              refine inb_n ?_
              have hdn := cnt_of (FF29.get 0 rfl)
              refine then_n ⟨⟨n + 1, by omega, FF29.pick [0, 1, 2, 3, 4, 5, 6, 7, 8, 9, 10, 11], MM29⟩, ?_⟩
              rw [hcn, hdn]; omega
            · skip
              refine rg_c FF26 MM26 [(1, w_ 2), (5, t_ (iN T.length)), (0, w_ 3)] 14 [71] [] (⟨by omega, by omega, (vI (bs_size _)), by omega, fun _ _ FF30 MM30 => ?_⟩)
              refine then_n (.inr ⟨FF30.ev 0 rfl, ?_⟩)
              have hn2 : n = ((T.drop (16 * k)).take 16).length := by simp; omega
              refine then_n ?_
              refine wp_seq (rg_c FF30 MM30 [(1, w_ 1), (0, s_ 0 (.cells (cn .u64 (dig (numR ((T.drop (16 * k)).take 16)))) 165))] 14 [] [] (⟨by omega, rfl, (by rw [cn_size, (genL_len _ _ _)]; omega), (.inl rfl), ((cn_set _ _ _ _).trans (congrArg _ (by rw [hn2]; exact blk_dig (by simp; omega) (blkT_lt hT k)))), fun _ _ FF31 MM31 => then_n ?_⟩))
              have hnb := numR_lt (R := ((T.drop (16 * k)).take 16)) (by simp; omega) (blkT_lt hT k)
              have hrl := rOf_lt K
              refine rg_dc 5 FF31 MM31 [(0, b_ 1), (0, b_ 0), (0, t_ (.agg (cn .u64 (dig ((mK (rOf K) T k) + (numR ((T.drop (16 * k)).take 16))))))), (0, b_ 3), (0, t_ (.agg (cn .u64 (dig (mK (rOf K) T (k + 1))))))] [(0, b_ 1)] 14 [] [] (⟨rfl, ((cn_size _ _).trans (dig_len _)), rfl, ((cn_size _ _).trans (dig_len _)), (radd_ok (by omega) (by omega) _), rfl, ((cn_size _ _).trans (dig_len _)), (callP_of ent25 (rtimes_any _ _ (by omega) (by omega)) _), rfl, ((cn_size _ _).trans (dig_len _)), ((cn_size _ _).trans (dig_len _)), (cn_one _ _), rfl, fun _ _ FF32 MM32 => ?_⟩)
              refine inb_n (then_n ?_)
              refine rg_c FF32 MM32 [(1, t_ (iN (16 * (k + 1))))] 14 [] [] (⟨by omega, (vI (by omega)), fun _ _ FF33 MM33 => ?_⟩)
              have hdk := cnt_of (FF33.get 0 rfl)
              refine then_n ⟨⟨k + 1, .inr (by omega), FF33.pick [0, 3, 4, 5, 6, 7, 8, 9, 10, 11], MM33.sub [1, 2, 3, 4, 5] rfl⟩, ?_⟩
              rw [hck, hdk]; omega
          · skip
            refine rg_c FF26 MM26 [(1, w_ 3)] 14 [71] [] (⟨by omega, fun _ _ FF34 MM34 => ?_⟩)
            refine then_n (.inr ⟨FF34.ev 0 rfl, ?_⟩)
            have hn2 : n = ((T.drop (16 * k)).take 16).length := by simp; omega
            refine then_n ?_
            refine wp_seq (rg_c FF34 MM34 [(1, w_ 1), (0, s_ 0 (.cells (cn .u64 (dig (numR ((T.drop (16 * k)).take 16)))) 165))] 14 [] [] (⟨by omega, rfl, (by rw [cn_size, (genL_len _ _ _)]; omega), (.inl rfl), ((cn_set _ _ _ _).trans (congrArg _ (by rw [hn2]; exact blk_dig (by simp; omega) (blkT_lt hT k)))), fun _ _ FF35 MM35 => then_n ?_⟩))
            have hnb := numR_lt (R := ((T.drop (16 * k)).take 16)) (by simp; omega) (blkT_lt hT k)
            have hrl := rOf_lt K
            refine rg_dc 5 FF35 MM35 [(0, b_ 1), (0, b_ 0), (0, t_ (.agg (cn .u64 (dig ((mK (rOf K) T k) + (numR ((T.drop (16 * k)).take 16))))))), (0, b_ 3), (0, t_ (.agg (cn .u64 (dig (mK (rOf K) T (k + 1))))))] [(0, b_ 1)] 14 [] [] (⟨rfl, ((cn_size _ _).trans (dig_len _)), rfl, ((cn_size _ _).trans (dig_len _)), (radd_ok (by omega) (by omega) _), rfl, ((cn_size _ _).trans (dig_len _)), (callP_of ent25 (rtimes_any _ _ (by omega) (by omega)) _), rfl, ((cn_size _ _).trans (dig_len _)), ((cn_size _ _).trans (dig_len _)), (cn_one _ _), rfl, fun _ _ FF36 MM36 => ?_⟩)
            refine inb_n (then_n ?_)
            refine rg_c FF36 MM36 [(1, t_ (iN (16 * (k + 1))))] 14 [] [] (⟨by omega, (vI (by omega)), fun _ _ FF37 MM37 => ?_⟩)
            have hdk := cnt_of (FF37.get 0 rfl)
            refine then_n ⟨⟨k + 1, .inr (by omega), FF37.pick [0, 3, 4, 5, 6, 7, 8, 9, 10, 11], MM37.sub [1, 2, 3, 4, 5] rfl⟩, ?_⟩
            rw [hck, hdk]; omega
        · skip
          refine then_n (.inr ⟨(FF23.ev 0 rfl).trans (dec_f hltk), ?_⟩)
          refine then_n ?_
          refine wp_seq (rg_c FF23 MM23 [(0, b_ 0), (0, t_ (.agg (cn .u64 (dig 5)))), (0, t_ (.agg (cn .u64 (dig ((mK (rOf K) T k) + 5))))), (0, s_ 0 (.cells (cn .u64 (List.replicate 17 0)) 165)), (0, b_ 0)] 15 [] [] (⟨rfl, ((cn_size _ _).trans (dig_len _)), (Eq.trans (show _ = some (cn .u64 ([5, 0, 0, 0, 0, 0, 0, 0, 0, 0, 0, 0, 0, 0, 0, 0, 0])) by kernel_rfl) (congrArg some (Value.agg.inj rfl))), (radd_ok (by omega) (by decide) _), (by kernel_rfl), fun bg => ⟨rfl, ((cn_size _ _).trans (List.length_replicate ..)), ((cn_size _ _).trans (dig_len _)), (cn_one _ _), rfl, fun _ _ FF38 MM38 => then_n ?_⟩⟩))
          refine wp_seq ?_
          refine wp_seq (rg_c FF38 MM38 [(0, w_ 1), (0, l_ 0 (iW ((mK (rOf K) T k + 5) / 340282366920938463463374607431768211456)))] 15 [94] [] (⟨by decide, rfl, ((cn_get _ _ _ (by rw [dig_len]; decide)).trans (by rw [dig_hi])), fun _ wd39 FF39 MM39 => then_n ?_⟩))
          by_cases hs94 : ((mK (rOf K) T k + 5) / 340282366920938463463374607431768211456) > 3
          · refine wp_cond_true ((FF39.ev 0 rfl).trans (dec_t hs94)) ?_
            refine wp_seq (rg_c FF39 MM39 [(0, w_ 1), (0, l_ 0 (iW ((mK (rOf K) T k + 5) / 340282366920938463463374607431768211456))), (0, t_ (iW (((mK (rOf K) T k + 5) / 340282366920938463463374607431768211456) % 4))), (0, w_ 1), (0, s_ 0 (.cells (cn .u64 (dig (mK (rOf K) T k % 1361129467683753853853498429727072845819))) 165))] 15 [] [] (⟨by decide, rfl, ((cn_get _ _ _ (by rw [dig_len]; decide)).trans (by rw [dig_hi])), by omega, by decide, (vI (and_low 2 _)), by decide, rfl, (by rw [cn_size, (dig_len _)]; decide), (.inl rfl), ((cn_set _ _ _ _).trans (congrArg _ ((low_cut _).trans (by rw [settle_hi hmk hs94])))), fun _ _ FF40 MM40 => then_n ?_⟩))
            refine rg_c FF40 MM40 [(0, b_ 0), (0, b_ 1)] 15 [] [] (⟨rfl, ((cn_size _ _).trans (dig_len _)), rfl, ((cn_size _ _).trans (dig_len _)), ((cn_size _ _).trans (dig_len _)), (cn_one _ _), rfl, fun _ _ FF41 MM41 => ?_⟩)
            refine then_n ?_
            have hsl : sOf K < 340282366920938463463374607431768211456 := sOf_lt hK
            have hml := Nat.mod_lt (mK (rOf K) T k) (show 1361129467683753853853498429727072845819 > 0 by decide)
            refine wp_seq (rg_c FF41 MM41 [(0, b_ 1), (0, b_ 2), (0, t_ (.agg (cn .u64 (dig ((mK (rOf K) T k % 1361129467683753853853498429727072845819) + (sOf K)))))), (0, b_ 1)] 15 [] [] (⟨rfl, ((cn_size _ _).trans (dig_len _)), rfl, ((cn_size _ _).trans (dig_len _)), (radd_ok (by omega) (by omega) _), rfl, ((cn_size _ _).trans (dig_len _)), ((cn_size _ _).trans (dig_len _)), (cn_one _ _), rfl, fun _ _ FF42 MM42 => then_n ?_⟩))
            refine wp_seq (rg_c FF42 MM42 [(0, t_ (.agg (cn .u8 (List.replicate 16 0)))), (0, s_ 0 (.cells (cn .u8 (List.replicate 16 0)) 50)), (0, b_ 0)] 16 [] [] (⟨(by kernel_rfl), (by kernel_rfl), fun bo => ⟨rfl, ((cn_size _ _).trans (List.length_replicate ..)), ((cn_size _ _).trans (List.length_replicate ..)), (cn_one _ _), rfl, fun _ wd43 FF43 MM43 => then_n ?_⟩⟩))
            have MMr146 : MemS (fun k => k < w0.heap.size) w0 wd43 [(bo, .cells (cn .u8 (genL 16 (fun i => (dig (mK (rOf K) T k % 1361129467683753853853498429727072845819 + sOf K)).getD i 0 % 256) 0)) 50), (bg, .cells (cn .u64 (dig (mK (rOf K) T k % 1361129467683753853853498429727072845819))) 165), (bh, .cells (cn .u64 (dig ((mK (rOf K) T k % 1361129467683753853853498429727072845819) + (sOf K)))) 165), (be, .cells (cn .u64 (dig (sOf K))) 165), (br, .cells (cn .u64 (dig (rOf K))) 165), (b2, .cells (cn .u8 (List.replicate 16 0)) 50), (b1, .cells (cn .u8 K) 41)] [] := by rw [← genL_zero 16 (fun i => (dig (mK (rOf K) T k % 1361129467683753853853498429727072845819 + sOf K)).getD i 0 % 256)]; exact MM43
            refine wp_seq ?_
            refine wp_seq (rg_c FF43 MMr146 [] 17 [] [] (fun _ _ FF44 MM44 => then_n ?_))
            refine wp_for2 (fun a' w' => ∃ j : Nat, j ≤ 16 ∧ Fr 115 a' [(16, iN j), (15, pT bo), (14, pT bg), (11, iN (16 * k)), (10, pT bh), (9, iN (4 * 4)), (8, iN (4 * 4 + 3)), (7, iN 16), (6, pT be), (5, pT br), (4, pT b2), (2, pT b1), (1, sB T)] ∧ MemS (fun k => k < w0.heap.size) w0 w' [(bo, .cells (cn .u8 (genL 16 (fun i => (dig (mK (rOf K) T k % 1361129467683753853853498429727072845819 + sOf K)).getD i 0 % 256) j)) 50), (bg, .cells (cn .u64 (dig (mK (rOf K) T k % 1361129467683753853853498429727072845819))) 165), (bh, .cells (cn .u64 (dig ((mK (rOf K) T k % 1361129467683753853853498429727072845819) + (sOf K)))) 165), (be, .cells (cn .u64 (dig (sOf K))) 165), (br, .cells (cn .u64 (dig (rOf K))) 165), (b2, .cells (cn .u8 (List.replicate 16 0)) 50), (b1, .cells (cn .u8 K) 41)] []) (fun a' _ => (16 - cnt 16 a').toNat) ⟨0, by omega, FF44.pick [0, 1, 2, 3, 4, 5, 6, 7, 8, 9, 10, 11, 12], MM44⟩ ?_
            rintro ac45 wd45 ⟨j, hj, FF45, MM45⟩
            have hcj := cnt_of (FF45.get 0 rfl)
            refine rg_c FF45 MM45 [] 17 [105] [] (fun _ _ FF46 MM46 => ?_)
            by_cases hltj : j < 16
            · skip
              refine then_n (.inl ⟨(FF46.ev 0 rfl).trans (dec_t hltj), ?_⟩)
              refine rg_c FF46 MM46 [(2, w_ 1), (0, l_ 2 (iW ((dig ((mK (rOf K) T k % 1361129467683753853853498429727072845819) + (sOf K))).getD j 0))), (1, w_ 1), (0, s_ 0 (.cells (cn .u8 (genL 16 (fun i => (dig (mK (rOf K) T k % 1361129467683753853853498429727072845819 + sOf K)).getD i 0 % 256) (j + 1))) 50))] 17 [] [] (⟨by omega, rfl, (cn_get _ _ _ (by rw [(dig_len _)]; omega)), by omega, rfl, (by rw [cn_size, (genL_len _ _ _)]; omega), (.inl rfl), ((cn_set _ _ _ _).trans (congrArg _ (genL_step _ _ j (by omega) rfl))), fun _ _ FF47 MM47 => ?_⟩)
              refine inb_n (then_n ?_)
              refine rg_c FF47 MM47 [] 17 [] [] (⟨by omega, fun _ _ FF48 MM48 => ?_⟩)
              have hdj := cnt_of (FF48.get 0 rfl)
              refine then_n ⟨⟨j + 1, by omega, FF48.pick [0, 1, 2, 3, 4, 5, 6, 7, 8, 9, 10, 11, 12], MM48⟩, ?_⟩
              rw [hcj, hdj]; omega
            · skip
              refine then_n (.inr ⟨(FF46.ev 0 rfl).trans (dec_f hltj), ?_⟩)
              obtain rfl : j = 16 := by omega
              refine then_n ?_
              refine wp_seq (rg_c FF46 MM46 [(0, b_ 0), (0, b_ 5)] 17 [] [] (⟨rfl, ((cn_size _ _).trans (genL_len _ _ _)), rfl, ((cn_size _ _).trans (List.length_replicate ..)), ((cn_size _ _).trans (genL_len _ _ _)), (cn_one _ _), rfl, fun _ _ FF49 MM49 => then_n ?_⟩))
              refine wp_ret ?_
              repeat first | refine then_ret ?_ | refine inb_ret ?_
              exact (retc FF49 MM49 (k := 16) (i := 5) (j := 10) Try.results69 rfl rfl Try.underlying50 rfl (by kernel_rfl) ((cn_size _ _).trans (genL_len _ _ _)) ⟨by rw [out_leB, mAll_mod _ T k (by omega) hk, ← poly_leB], MM49.below⟩)
          · refine wp_cond_false ((FF39.ev 0 rfl).trans (dec_f hs94)) ?_
            refine wp_skip ?_
            refine then_n ?_
            have MMz : MemS (fun k => k < w0.heap.size) w0 wd39 [(bg, .cells (cn .u64 (dig ((mK (rOf K) T k) + 5))) 165), (bh, .cells (cn .u64 (dig (mK (rOf K) T k % 1361129467683753853853498429727072845819))) 165), (be, .cells (cn .u64 (dig (sOf K))) 165), (br, .cells (cn .u64 (dig (rOf K))) 165), (b2, .cells (cn .u8 (List.replicate 16 0)) 50), (b1, .cells (cn .u8 K) 41)] [] := by rw [settle_lo hs94]; exact MM39
            have hsl : sOf K < 340282366920938463463374607431768211456 := sOf_lt hK
            have hml := Nat.mod_lt (mK (rOf K) T k) (show 1361129467683753853853498429727072845819 > 0 by decide)
            refine wp_seq (rg_c FF39 MMz [(0, b_ 1), (0, b_ 2), (0, t_ (.agg (cn .u64 (dig ((mK (rOf K) T k % 1361129467683753853853498429727072845819) + (sOf K)))))), (0, b_ 1)] 15 [] [] (⟨rfl, ((cn_size _ _).trans (dig_len _)), rfl, ((cn_size _ _).trans (dig_len _)), (radd_ok (by omega) (by omega) _), rfl, ((cn_size _ _).trans (dig_len _)), ((cn_size _ _).trans (dig_len _)), (cn_one _ _), rfl, fun _ _ FF50 MM50 => then_n ?_⟩))
            refine wp_seq (rg_c FF50 MM50 [(0, t_ (.agg (cn .u8 (List.replicate 16 0)))), (0, s_ 0 (.cells (cn .u8 (List.replicate 16 0)) 50)), (0, b_ 0)] 16 [] [] (⟨(by kernel_rfl), (by kernel_rfl), fun bo => ⟨rfl, ((cn_size _ _).trans (List.length_replicate ..)), ((cn_size _ _).trans (List.length_replicate ..)), (cn_one _ _), rfl, fun _ wd51 FF51 MM51 => then_n ?_⟩⟩))
            have MMr178 : MemS (fun k => k < w0.heap.size) w0 wd51 [(bo, .cells (cn .u8 (genL 16 (fun i => (dig (mK (rOf K) T k % 1361129467683753853853498429727072845819 + sOf K)).getD i 0 % 256) 0)) 50), (bg, .cells (cn .u64 (dig ((mK (rOf K) T k) + 5))) 165), (bh, .cells (cn .u64 (dig ((mK (rOf K) T k % 1361129467683753853853498429727072845819) + (sOf K)))) 165), (be, .cells (cn .u64 (dig (sOf K))) 165), (br, .cells (cn .u64 (dig (rOf K))) 165), (b2, .cells (cn .u8 (List.replicate 16 0)) 50), (b1, .cells (cn .u8 K) 41)] [] := by rw [← genL_zero 16 (fun i => (dig (mK (rOf K) T k % 1361129467683753853853498429727072845819 + sOf K)).getD i 0 % 256)]; exact MM51
            refine wp_seq ?_
            refine wp_seq (rg_c FF51 MMr178 [] 17 [] [] (fun _ _ FF52 MM52 => then_n ?_))
            refine wp_for2 (fun a' w' => ∃ j : Nat, j ≤ 16 ∧ Fr 115 a' [(16, iN j), (15, pT bo), (14, pT bg), (11, iN (16 * k)), (10, pT bh), (9, iN (4 * 4)), (8, iN (4 * 4 + 3)), (7, iN 16), (6, pT be), (5, pT br), (4, pT b2), (2, pT b1), (1, sB T)] ∧ MemS (fun k => k < w0.heap.size) w0 w' [(bo, .cells (cn .u8 (genL 16 (fun i => (dig (mK (rOf K) T k % 1361129467683753853853498429727072845819 + sOf K)).getD i 0 % 256) j)) 50), (bg, .cells (cn .u64 (dig ((mK (rOf K) T k) + 5))) 165), (bh, .cells (cn .u64 (dig ((mK (rOf K) T k % 1361129467683753853853498429727072845819) + (sOf K)))) 165), (be, .cells (cn .u64 (dig (sOf K))) 165), (br, .cells (cn .u64 (dig (rOf K))) 165), (b2, .cells (cn .u8 (List.replicate 16 0)) 50), (b1, .cells (cn .u8 K) 41)] []) (fun a' _ => (16 - cnt 16 a').toNat) ⟨0, by omega, FF52.pick [0, 1, 2, 3, 4, 5, 6, 7, 8, 9, 10, 11, 12], MM52⟩ ?_
            rintro ac53 wd53 ⟨j, hj, FF53, MM53⟩
            have hcj := cnt_of (FF53.get 0 rfl)
            refine rg_c FF53 MM53 [] 17 [105] [] (fun _ _ FF54 MM54 => ?_)
            by_cases hltj : j < 16
            · skip
              refine then_n (.inl ⟨(FF54.ev 0 rfl).trans (dec_t hltj), ?_⟩)
              refine rg_c FF54 MM54 [(2, w_ 1), (0, l_ 2 (iW ((dig ((mK (rOf K) T k % 1361129467683753853853498429727072845819) + (sOf K))).getD j 0))), (1, w_ 1), (0, s_ 0 (.cells (cn .u8 (genL 16 (fun i => (dig (mK (rOf K) T k % 1361129467683753853853498429727072845819 + sOf K)).getD i 0 % 256) (j + 1))) 50))] 17 [] [] (⟨by omega, rfl, (cn_get _ _ _ (by rw [(dig_len _)]; omega)), by omega, rfl, (by rw [cn_size, (genL_len _ _ _)]; omega), (.inl rfl), ((cn_set _ _ _ _).trans (congrArg _ (genL_step _ _ j (by omega) rfl))), fun _ _ FF55 MM55 => ?_⟩)
              refine inb_n (then_n ?_)
              refine rg_c FF55 MM55 [] 17 [] [] (⟨by omega, fun _ _ FF56 MM56 => ?_⟩)
              have hdj := cnt_of (FF56.get 0 rfl)
              refine then_n ⟨⟨j + 1, by omega, FF56.pick [0, 1, 2, 3, 4, 5, 6, 7, 8, 9, 10, 11, 12], MM56⟩, ?_⟩
              rw [hcj, hdj]; omega
            · skip
              refine then_n (.inr ⟨(FF54.ev 0 rfl).trans (dec_f hltj), ?_⟩)
              obtain rfl : j = 16 := by omega
              refine then_n ?_
              refine wp_seq (rg_c FF54 MM54 [(0, b_ 0), (0, b_ 5)] 17 [] [] (⟨rfl, ((cn_size _ _).trans (genL_len _ _ _)), rfl, ((cn_size _ _).trans (List.length_replicate ..)), ((cn_size _ _).trans (genL_len _ _ _)), (cn_one _ _), rfl, fun _ _ FF57 MM57 => then_n ?_⟩))
              refine wp_ret ?_
              repeat first | refine then_ret ?_ | refine inb_ret ?_
              exact (retc FF57 MM57 (k := 16) (i := 5) (j := 10) Try.results69 rfl rfl Try.underlying50 rfl (by kernel_rfl) ((cn_size _ _).trans (genL_len _ _ _)) ⟨by rw [out_leB, mAll_mod _ T k (by omega) hk, ← poly_leB], MM57.below⟩)
end Go.Proofs.Ytniplfjnpjihoaa
namespace Go.Proofs.Ytniplfjnpjihoaa
open Go.RowKit
theorem set_same {l : List Nat} {i x : Nat} (h : i < l.length) : (l.set i x).getD i 0 = x := by simp [List.getD_eq_getElem?_getD, h]
theorem set_other {l : List Nat} {i j x : Nat} (h : i ≠ j) : (l.set i x).getD j 0 = l.getD j 0 := by simp [List.getD_eq_getElem?_getD, h]
theorem qset_eq {l m1 m2 m3 m4 m5 m6 m7 m8 : List Nat} {a b c d xa xb xc xd s1 s2 s3 s4 s5 s6 s7 s8 : Nat} (ha_ : a < 16 ∧ a ≠ b ∧ a ≠ c ∧ a ≠ d) (hb_ : b < 16 ∧ b ≠ c ∧ b ≠ d) (hc_ : c < 16 ∧ c ≠ d) (hd_ : d < 16) (ea : l.getD a 0 = xa) (eb : l.getD b 0 = xb) (ec : l.getD c 0 = xc) (ed : l.getD d 0 = xd)
    (f1 : (xa + xb) % 4294967296 = s1) (f2 : rN 65536 65536 (xd ^^^ s1) = s2) (f3 : (xc + s2) % 4294967296 = s3) (f4 : rN 4096 1048576 (xb ^^^ s3) = s4) (f5 : (s1 + s4) % 4294967296 = s5) (f6 : rN 256 16777216 (s2 ^^^ s5) = s6) (f7 : (s3 + s6) % 4294967296 = s7) (f8 : rN 128 33554432 (s4 ^^^ s7) = s8)
    (g1 : l.set a s1 = m1) (g2 : m1.set d s2 = m2) (g3 : m2.set c s3 = m3) (g4 : m3.set b s4 = m4) (g5 : m4.set a s5 = m5) (g6 : m5.set d s6 = m6) (g7 : m6.set c s7 = m7) (g8 : m7.set b s8 = m8) (hl : l.length = 16) : m8 = qAt l a b c d := by
  have e : qAt l a b c d = (((l.set a s5).set b s8).set c s7).set d s6 := by
    subst ea eb ec ed f1 f2 f3 f4 f5 f6 f7 f8
    rfl
  rw [e]
  subst g1 g2 g3 g4 g5 g6 g7 g8
  refine ext_getD (by simp only [List.length_set]) fun i h => ?_
  simp only [getD_set, List.length_set]
  by_cases h1 : b = i
  · subst h1; simp [hb_.2.1.symm, hb_.2.2.symm, hb_.1, hl]
  by_cases h2 : c = i
  · subst h2; simp [h1, hc_.2.symm, hc_.1, hl]
  by_cases h3 : d = i
  · subst h3; simp [h1, h2, hd_, hl]
  by_cases h4 : a = i
  · subst h4; simp [h1, h2, h3, ha_.1, hl]
  simp [h1, h2, h3, h4]
set_option maxHeartbeats 1000000 in
set_option maxRecDepth 100000 in
theorem rquarter_any (l : List Nat) (H : Words l) (a b c d : Nat) (ha_ : a < 16 ∧ a ≠ b ∧ a ≠ c ∧ a ≠ d) (hb_ : b < 16 ∧ b ≠ c ∧ b ≠ d) (hc_ : c < 16 ∧ c ≠ d) (hd_ : d < 16) (w0 : World) :
    Calls Try.prog 85 #[.agg (cn .u32 l), iN a, iN b, iN c, iN d] w0 fun e w' => e = .returned (.agg (cn .u32 (qAt l a b c d))) ∧ Below w0.heap.size w0 w' := by
  refine enter_fr Try.func85 rfl Try.ntmps85 (by simp) fun ac (FF : Fr 84 ac [(0, .agg (cn .u32 l)), (1, iN a), (2, iN b), (3, iN c), (4, iN d)]) => ?_
  have MM := MemS.start w0
  obtain ⟨xa, ea⟩ : ∃ z, l.getD a 0 = z := ⟨_, rfl⟩
  have ha : xa < 4294967296 := ea ▸ H.lt a
  obtain ⟨xb, eb⟩ : ∃ z, l.getD b 0 = z := ⟨_, rfl⟩
  have hb : xb < 4294967296 := eb ▸ H.lt b
  obtain ⟨xc, ec⟩ : ∃ z, l.getD c 0 = z := ⟨_, rfl⟩
  have hc : xc < 4294967296 := ec ▸ H.lt c
  obtain ⟨xd, ed⟩ : ∃ z, l.getD d 0 = z := ⟨_, rfl⟩
  have hd : xd < 4294967296 := ed ▸ H.lt d
  refine wp_seq (rg_c FF MM [(0, s_ 0 (.cells (cn .u32 l) 125)), (0, s_ 0 (.cells (cn .u32 (List.replicate 16 0)) 125))] 11 [] [0] (⟨(by kernel_rfl), fun bs => ⟨(by kernel_rfl), fun br => fun _ _ FF1 MM1 => then_n ?_⟩⟩))
  obtain ⟨s1, fs1⟩ : ∃ z, (xa + xb) % 4294967296 = z := ⟨_, rfl⟩
  have hs1 : s1 < 4294967296 := fs1 ▸ (Nat.mod_lt _ (by decide))
  refine wp_seq (rg_dc 8 FF1 MM1 [(1, w_ 1), (0, l_ 1 (.int .u32 (xa : Nat))), (1, w_ 1), (0, l_ 1 (.int .u32 (xb : Nat))), (0, t_ (.int .u32 (s1 : Nat))), (0, w_ 1)] [(0, s_ 1 (.cells (cn .u32 (l.set a s1)) 125))] 11 [] [] (⟨by omega, rfl, ((cn_get _ _ _ (by rw [H.len]; omega)).trans (congrArg some (vI ea))), by omega, rfl, ((cn_get _ _ _ (by rw [H.len]; omega)).trans (congrArg some (vI eb))), (vI fs1), by omega, rfl, (by rw [cn_size, H.len]; omega), (.inl rfl), (cn_set _ _ _ _), fun _ wd2 FF2 MM2 => then_n ?_⟩))
  obtain ⟨m1, g1⟩ : ∃ z, l.set a s1 = z := ⟨_, rfl⟩
  have n1 : m1.length = 16 := by rw [← g1, List.length_set]; exact H.len
  have q1a : m1.getD a 0 = s1 := by rw [← g1]; exact set_same (by rw [H.len]; omega)
  have q1b : m1.getD b 0 = xb := by rw [← g1]; exact (set_other (by omega)).trans eb
  have q1c : m1.getD c 0 = xc := by rw [← g1]; exact (set_other (by omega)).trans ec
  have q1d : m1.getD d 0 = xd := by rw [← g1]; exact (set_other (by omega)).trans ed
  have MMr20 : MemS (fun k => k < w0.heap.size) w0 wd2 [(br, .cells (cn .u32 (List.replicate 16 0)) 125), (bs, .cells (cn .u32 m1) 125)] [] := by rw [← g1]; exact MM2
  obtain ⟨s2, fs2⟩ : ∃ z, rN 65536 65536 (xd ^^^ s1) = z := ⟨_, rfl⟩
  have hs2 : s2 < 4294967296 := fs2 ▸ rN_lt 65536 65536 _ (xor_lt hd hs1)
  refine wp_seq (rg_dc 10 FF2 MMr20 [(2, w_ 1), (0, l_ 1 (.int .u32 (xd : Nat))), (1, w_ 1), (0, l_ 1 (.int .u32 (s1 : Nat))), (1, t_ (.int .u32 (s2 : Nat))), (0, w_ 1)] [(0, s_ 1 (.cells (cn .u32 (m1.set d s2)) 125))] 11 [] [] (⟨by omega, rfl, ((cn_get _ _ _ (by rw [n1]; omega)).trans (congrArg some (vI q1d))), by omega, rfl, ((cn_get _ _ _ (by rw [n1]; omega)).trans (congrArg some (vI q1a))), hd, hs1, (by rw [← fs2]; exact (callP_of en_left (left_any (xd ^^^ s1) 16 65536 65536 (xor_lt hd hs1) (by decide) (by decide) rfl rfl) _)), by omega, rfl, (by rw [cn_size, n1]; omega), (.inl rfl), (cn_set _ _ _ _), fun _ wd3 FF3 MM3 => then_n ?_⟩))
  obtain ⟨m2, g2⟩ : ∃ z, m1.set d s2 = z := ⟨_, rfl⟩
  have n2 : m2.length = 16 := by rw [← g2, List.length_set]; exact n1
  have q2a : m2.getD a 0 = s1 := by rw [← g2]; exact (set_other (by omega)).trans q1a
  have q2b : m2.getD b 0 = xb := by rw [← g2]; exact (set_other (by omega)).trans q1b
  have q2c : m2.getD c 0 = xc := by rw [← g2]; exact (set_other (by omega)).trans q1c
  have q2d : m2.getD d 0 = s2 := by rw [← g2]; exact set_same (by rw [n1]; omega)
  have MMr30 : MemS (fun k => k < w0.heap.size) w0 wd3 [(br, .cells (cn .u32 (List.replicate 16 0)) 125), (bs, .cells (cn .u32 m2) 125)] [] := by rw [← g2]; exact MM3
  obtain ⟨s3, fs3⟩ : ∃ z, (xc + s2) % 4294967296 = z := ⟨_, rfl⟩
  have hs3 : s3 < 4294967296 := fs3 ▸ (Nat.mod_lt _ (by decide))
  refine wp_seq (rg_dc 8 FF3 MMr30 [(1, w_ 1), (0, l_ 1 (.int .u32 (xc : Nat))), (1, w_ 1), (0, l_ 1 (.int .u32 (s2 : Nat))), (0, t_ (.int .u32 (s3 : Nat))), (0, w_ 1)] [(0, s_ 1 (.cells (cn .u32 (m2.set c s3)) 125))] 11 [] [] (⟨by omega, rfl, ((cn_get _ _ _ (by rw [n2]; omega)).trans (congrArg some (vI q2c))), by omega, rfl, ((cn_get _ _ _ (by rw [n2]; omega)).trans (congrArg some (vI q2d))), (vI fs3), by omega, rfl, (by rw [cn_size, n2]; omega), (.inl rfl), (cn_set _ _ _ _), fun _ wd4 FF4 MM4 => then_n ?_⟩))
  obtain ⟨m3, g3⟩ : ∃ z, m2.set c s3 = z := ⟨_, rfl⟩
  have n3 : m3.length = 16 := by rw [← g3, List.length_set]; exact n2
  have q3a : m3.getD a 0 = s1 := by rw [← g3]; exact (set_other (by omega)).trans q2a
  have q3b : m3.getD b 0 = xb := by rw [← g3]; exact (set_other (by omega)).trans q2b
  have q3c : m3.getD c 0 = s3 := by rw [← g3]; exact set_same (by rw [n2]; omega)
  have q3d : m3.getD d 0 = s2 := by rw [← g3]; exact (set_other (by omega)).trans q2d
  have MMr40 : MemS (fun k => k < w0.heap.size) w0 wd4 [(br, .cells (cn .u32 (List.replicate 16 0)) 125), (bs, .cells (cn .u32 m3) 125)] [] := by rw [← g3]; exact MM4
  obtain ⟨s4, fs4⟩ : ∃ z, rN 4096 1048576 (xb ^^^ s3) = z := ⟨_, rfl⟩
  have hs4 : s4 < 4294967296 := fs4 ▸ rN_lt 4096 1048576 _ (xor_lt hb hs3)
  refine wp_seq (rg_dc 10 FF4 MMr40 [(2, w_ 1), (0, l_ 1 (.int .u32 (xb : Nat))), (1, w_ 1), (0, l_ 1 (.int .u32 (s3 : Nat))), (1, t_ (.int .u32 (s4 : Nat))), (0, w_ 1)] [(0, s_ 1 (.cells (cn .u32 (m3.set b s4)) 125))] 11 [] [] (⟨by omega, rfl, ((cn_get _ _ _ (by rw [n3]; omega)).trans (congrArg some (vI q3b))), by omega, rfl, ((cn_get _ _ _ (by rw [n3]; omega)).trans (congrArg some (vI q3c))), hb, hs3, (by rw [← fs4]; exact (callP_of en_left (left_any (xb ^^^ s3) 12 4096 1048576 (xor_lt hb hs3) (by decide) (by decide) rfl rfl) _)), by omega, rfl, (by rw [cn_size, n3]; omega), (.inl rfl), (cn_set _ _ _ _), fun _ wd5 FF5 MM5 => then_n ?_⟩))
  obtain ⟨m4, g4⟩ : ∃ z, m3.set b s4 = z := ⟨_, rfl⟩
  have n4 : m4.length = 16 := by rw [← g4, List.length_set]; exact n3
  have q4a : m4.getD a 0 = s1 := by rw [← g4]; exact (set_other (by omega)).trans q3a
  have q4b : m4.getD b 0 = s4 := by rw [← g4]; exact set_same (by rw [n3]; omega)
  have q4c : m4.getD c 0 = s3 := by rw [← g4]; exact (set_other (by omega)).trans q3c
  have q4d : m4.getD d 0 = s2 := by rw [← g4]; exact (set_other (by omega)).trans q3d
  have MMr50 : MemS (fun k => k < w0.heap.size) w0 wd5 [(br, .cells (cn .u32 (List.replicate 16 0)) 125), (bs, .cells (cn .u32 m4) 125)] [] := by rw [← g4]; exact MM5
  obtain ⟨s5, fs5⟩ : ∃ z, (s1 + s4) % 4294967296 = z := ⟨_, rfl⟩
  have hs5 : s5 < 4294967296 := fs5 ▸ (Nat.mod_lt _ (by decide))
  refine wp_seq (rg_dc 8 FF5 MMr50 [(1, w_ 1), (0, l_ 1 (.int .u32 (s1 : Nat))), (1, w_ 1), (0, l_ 1 (.int .u32 (s4 : Nat))), (0, t_ (.int .u32 (s5 : Nat))), (0, w_ 1)] [(0, s_ 1 (.cells (cn .u32 (m4.set a s5)) 125))] 11 [] [] (⟨by omega, rfl, ((cn_get _ _ _ (by rw [n4]; omega)).trans (congrArg some (vI q4a))), by omega, rfl, ((cn_get _ _ _ (by rw [n4]; omega)).trans (congrArg some (vI q4b))), (vI fs5), by omega, rfl, (by rw [cn_size, n4]; omega), (.inl rfl), (cn_set _ _ _ _), fun _ wd6 FF6 MM6 => then_n ?_⟩))
  obtain ⟨m5, g5⟩ : ∃ z, m4.set a s5 = z := ⟨_, rfl⟩
  have n5 : m5.length = 16 := by rw [← g5, List.length_set]; exact n4
  have q5a : m5.getD a 0 = s5 := by rw [← g5]; exact set_same (by rw [n4]; omega)
  have q5b : m5.getD b 0 = s4 := by rw [← g5]; exact (set_other (by omega)).trans q4b
  have q5c : m5.getD c 0 = s3 := by rw [← g5]; exact (set_other (by omega)).trans q4c
  have q5d : m5.getD d 0 = s2 := by rw [← g5]; exact (set_other (by omega)).trans q4d
  have MMr60 : MemS (fun k => k < w0.heap.size) w0 wd6 [(br, .cells (cn .u32 (List.replicate 16 0)) 125), (bs, .cells (cn .u32 m5) 125)] [] := by rw [← g5]; exact MM6
  obtain ⟨s6, fs6⟩ : ∃ z, rN 256 16777216 (s2 ^^^ s5) = z := ⟨_, rfl⟩
  have hs6 : s6 < 4294967296 := fs6 ▸ rN_lt 256 16777216 _ (xor_lt hs2 hs5)
  refine wp_seq (rg_dc 10 FF6 MMr60 [(2, w_ 1), (0, l_ 1 (.int .u32 (s2 : Nat))), (1, w_ 1), (0, l_ 1 (.int .u32 (s5 : Nat))), (1, t_ (.int .u32 (s6 : Nat))), (0, w_ 1)] [(0, s_ 1 (.cells (cn .u32 (m5.set d s6)) 125))] 11 [] [] (⟨by omega, rfl, ((cn_get _ _ _ (by rw [n5]; omega)).trans (congrArg some (vI q5d))), by omega, rfl, ((cn_get _ _ _ (by rw [n5]; omega)).trans (congrArg some (vI q5a))), hs2, hs5, (by rw [← fs6]; exact (callP_of en_left (left_any (s2 ^^^ s5) 8 256 16777216 (xor_lt hs2 hs5) (by decide) (by decide) rfl rfl) _)), by omega, rfl, (by rw [cn_size, n5]; omega), (.inl rfl), (cn_set _ _ _ _), fun _ wd7 FF7 MM7 => then_n ?_⟩))
  obtain ⟨m6, g6⟩ : ∃ z, m5.set d s6 = z := ⟨_, rfl⟩
  have n6 : m6.length = 16 := by rw [← g6, List.length_set]; exact n5
  have q6a : m6.getD a 0 = s5 := by rw [← g6]; exact (set_other (by omega)).trans q5a
  have q6b : m6.getD b 0 = s4 := by rw [← g6]; exact (set_other (by omega)).trans q5b
  have q6c : m6.getD c 0 = s3 := by rw [← g6]; exact (set_other (by omega)).trans q5c
  have q6d : m6.getD d 0 = s6 := by rw [← g6]; exact set_same (by rw [n5]; omega)
  have MMr70 : MemS (fun k => k < w0.heap.size) w0 wd7 [(br, .cells (cn .u32 (List.replicate 16 0)) 125), (bs, .cells (cn .u32 m6) 125)] [] := by rw [← g6]; exact MM7
  obtain ⟨s7, fs7⟩ : ∃ z, (s3 + s6) % 4294967296 = z := ⟨_, rfl⟩
  have hs7 : s7 < 4294967296 := fs7 ▸ (Nat.mod_lt _ (by decide))
  refine wp_seq (rg_dc 8 FF7 MMr70 [(1, w_ 1), (0, l_ 1 (.int .u32 (s3 : Nat))), (1, w_ 1), (0, l_ 1 (.int .u32 (s6 : Nat))), (0, t_ (.int .u32 (s7 : Nat))), (0, w_ 1)] [(0, s_ 1 (.cells (cn .u32 (m6.set c s7)) 125))] 11 [] [] (⟨by omega, rfl, ((cn_get _ _ _ (by rw [n6]; omega)).trans (congrArg some (vI q6c))), by omega, rfl, ((cn_get _ _ _ (by rw [n6]; omega)).trans (congrArg some (vI q6d))), (vI fs7), by omega, rfl, (by rw [cn_size, n6]; omega), (.inl rfl), (cn_set _ _ _ _), fun _ wd8 FF8 MM8 => then_n ?_⟩))
  obtain ⟨m7, g7⟩ : ∃ z, m6.set c s7 = z := ⟨_, rfl⟩
  have n7 : m7.length = 16 := by rw [← g7, List.length_set]; exact n6
  have q7a : m7.getD a 0 = s5 := by rw [← g7]; exact (set_other (by omega)).trans q6a
  have q7b : m7.getD b 0 = s4 := by rw [← g7]; exact (set_other (by omega)).trans q6b
  have q7c : m7.getD c 0 = s7 := by rw [← g7]; exact set_same (by rw [n6]; omega)
  have q7d : m7.getD d 0 = s6 := by rw [← g7]; exact (set_other (by omega)).trans q6d
  have MMr80 : MemS (fun k => k < w0.heap.size) w0 wd8 [(br, .cells (cn .u32 (List.replicate 16 0)) 125), (bs, .cells (cn .u32 m7) 125)] [] := by rw [← g7]; exact MM8
  obtain ⟨s8, fs8⟩ : ∃ z, rN 128 33554432 (s4 ^^^ s7) = z := ⟨_, rfl⟩
  have hs8 : s8 < 4294967296 := fs8 ▸ rN_lt 128 33554432 _ (xor_lt hs4 hs7)
  refine wp_seq (rg_dc 10 FF8 MMr80 [(2, w_ 1), (0, l_ 1 (.int .u32 (s4 : Nat))), (1, w_ 1), (0, l_ 1 (.int .u32 (s7 : Nat))), (1, t_ (.int .u32 (s8 : Nat))), (0, w_ 1)] [(0, s_ 1 (.cells (cn .u32 (m7.set b s8)) 125))] 11 [] [] (⟨by omega, rfl, ((cn_get _ _ _ (by rw [n7]; omega)).trans (congrArg some (vI q7b))), by omega, rfl, ((cn_get _ _ _ (by rw [n7]; omega)).trans (congrArg some (vI q7c))), hs4, hs7, (by rw [← fs8]; exact (callP_of en_left (left_any (s4 ^^^ s7) 7 128 33554432 (xor_lt hs4 hs7) (by decide) (by decide) rfl rfl) _)), by omega, rfl, (by rw [cn_size, n7]; omega), (.inl rfl), (cn_set _ _ _ _), fun _ wd9 FF9 MM9 => then_n ?_⟩))
  obtain ⟨m8, g8⟩ : ∃ z, m7.set b s8 = z := ⟨_, rfl⟩
  have n8 : m8.length = 16 := by rw [← g8, List.length_set]; exact n7
  have q8a : m8.getD a 0 = s5 := by rw [← g8]; exact (set_other (by omega)).trans q7a
  have q8b : m8.getD b 0 = s8 := by rw [← g8]; exact set_same (by rw [n7]; omega)
  have q8c : m8.getD c 0 = s7 := by rw [← g8]; exact (set_other (by omega)).trans q7c
  have q8d : m8.getD d 0 = s6 := by rw [← g8]; exact (set_other (by omega)).trans q7d
  have MMr90 : MemS (fun k => k < w0.heap.size) w0 wd9 [(br, .cells (cn .u32 (List.replicate 16 0)) 125), (bs, .cells (cn .u32 m8) 125)] [] := by rw [← g8]; exact MM9
  refine wp_seq (rg_c FF9 MMr90 [(0, b_ 1), (0, b_ 0)] 11 [] [] (⟨rfl, ((cn_size _ _).trans n8), rfl, ((cn_size _ _).trans (List.length_replicate ..)), ((cn_size _ _).trans n8), (cn_one _ _), rfl, fun _ _ FF10 MM10 => then_n ?_⟩))
  refine wp_ret ?_
  repeat first | refine then_ret ?_ | refine inb_ret ?_
  exact (retc FF10 MM10 (k := 16) (i := 0) (j := 0) Try.results85 rfl rfl Try.underlying125 rfl (by kernel_rfl) ((cn_size _ _).trans n8) ⟨by rw [qset_eq ha_ hb_ hc_ hd_ ea eb ec ed fs1 fs2 fs3 fs4 fs5 fs6 fs7 fs8 g1 g2 g3 g4 g5 g6 g7 g8 H.len], MM10.below⟩)
end Go.Proofs.Ytniplfjnpjihoaa
namespace Go.Proofs.Ytniplfjnpjihoaa
open Go.RowKit
theorem setTo_len13 (ks ns : List Nat) (c i : Nat) : (setTo 13 ns ((setTo 4 ks (lay0 0) 8).set 12 c) i).length = 16 := (setTo_len _ _ _ _).trans (by rw [List.length_set]; exact setTo_len16 _ _ _ _)
set_option maxHeartbeats 1000000 in
set_option maxRecDepth 100000 in
theorem rBlock_any (ks ns : List Nat) (c : Nat) (hks : Bytes 32 ks) (hc : c < 4294967296) (hns : Bytes 12 ns) (w0 : World) :
    Calls Try.prog 68 #[.agg (cn .u8 ks), .int .u32 (c : Nat), .agg (cn .u8 ns)] w0 fun e w' => e = .returned (sB (blockN ks c ns)) ∧ Below w0.heap.size w0 w' := by
  refine enter_fr Try.func68 rfl Try.ntmps68 (by simp) fun ac (FF : Fr 114 ac [(0, .agg (cn .u8 ks)), (1, .int .u32 (c : Nat)), (2, .agg (cn .u8 ns))]) => ?_
  have MM := MemS.start w0
  refine wp_seq (rg_c FF MM [(0, s_ 0 (.cells (cn .u8 ks) 41)), (0, s_ 0 (.cells (cn .u8 ns) 44)), (0, t_ (sB []))] 7 [] [0, 2] (⟨(by kernel_rfl), fun bk => ⟨(by kernel_rfl), fun bn => ⟨(by kernel_rfl), fun _ _ FF1 MM1 => then_n ?_⟩⟩⟩))
  refine wp_seq (rg_c FF1 MM1 [(0, t_ (.agg (cn .u32 ([1634760805, 857760878, 2036477234, 1797285236, 0, 0, 0, 0, 0, 0, 0, 0, 0, 0, 0, 0])))), (0, s_ 0 (.cells (cn .u32 (List.replicate 16 0)) 125)), (0, b_ 0)] 8 [] [] (⟨(by kernel_rfl), (by kernel_rfl), fun bw => ⟨rfl, ((cn_size _ _).trans (List.length_replicate ..)), ((cn_size _ _).trans rfl), (cn_one _ _), rfl, fun _ wd2 FF2 MM2 => then_n ?_⟩⟩))
  have MMr4 : MemS (fun k => k < w0.heap.size) w0 wd2 [(bw, .cells (cn .u32 (setTo 4 ks (lay0 0) 0)) 125), (bn, .cells (cn .u8 ns) 44), (bk, .cells (cn .u8 ks) 41)] [] := MM2
  refine wp_seq ?_
  refine wp_seq (rg_c FF2 MMr4 [] 9 [] [] (fun _ _ FF3 MM3 => then_n ?_))
  refine wp_for2 (fun a' w' => ∃ i : Nat, i ≤ 8 ∧ Fr 114 a' [(8, iN i), (7, pT bw), (6, sB []), (5, pT bn), (3, pT bk), (1, .int .u32 (c : Nat))] ∧ MemS (fun k => k < w0.heap.size) w0 w' [(bw, .cells (cn .u32 (setTo 4 ks (lay0 0) i)) 125), (bn, .cells (cn .u8 ns) 44), (bk, .cells (cn .u8 ks) 41)] []) (fun a' _ => (8 - cnt 8 a').toNat) ⟨0, Nat.zero_le _, FF3.pick [0, 1, 2, 3, 4, 5], MM3⟩ ?_
  rintro ac4 wd4 ⟨i, hi, FF4, MM4⟩
  have hcn := cnt_of (FF4.get 0 rfl)
  refine rg_c FF4 MM4 [] 9 [19] [] (fun _ _ FF5 MM5 => ?_)
  by_cases hltn : i < 8
  · skip
    refine then_n (.inl ⟨(FF5.ev 0 rfl).trans (dec_t hltn), ?_⟩)
    refine rg_c FF5 MM5 [(7, w_ 2), (0, l_ 2 (sB (quad ks i))), (0, t_ (.int .u32 (cwdAt ks i : Nat))), (0, w_ 1), (0, s_ 0 (.cells (cn .u32 ((setTo 4 ks (lay0 0) i).set (4 + i) (cwdAt ks i))) 125))] 9 [] [] (⟨by omega, by omega, by omega, by omega, by omega, by omega, by omega, rfl, (by rw [← cutQ ks i (by rw [hks.len]; omega)]; exact str_part hks.len hks.lt (by omega)), (callP_of en_four (four_any (quad ks i) rfl (quad_lt hks.lt i)) _), by omega, rfl, (by rw [cn_size, (setTo_len16 _ _ _ _)]; omega), (.inl rfl), (cn_set _ _ _ _), fun _ wd6 FF6 MM6 => ?_⟩)
    have MMr15 : MemS (fun k => k < w0.heap.size) w0 wd6 [(bw, .cells (cn .u32 (setTo 4 ks (lay0 0) (i + 1))) 125), (bn, .cells (cn .u8 ns) 44), (bk, .cells (cn .u8 ks) 41)] [] := MM6
    refine inb_n (then_n ?_)
    refine rg_c FF6 MMr15 [] 9 [] [] (⟨by omega, fun _ _ FF7 MM7 => ?_⟩)
    have hdn := cnt_of (FF7.get 0 rfl)
    refine then_n ⟨⟨i + 1, by omega, FF7.pick [0, 1, 2, 3, 4, 5], MM7⟩, ?_⟩
    rw [hcn, hdn]; omega
  · skip
    refine then_n (.inr ⟨(FF5.ev 0 rfl).trans (dec_f hltn), ?_⟩)
    obtain rfl : i = 8 := by omega
    refine then_n ?_
    refine wp_seq (rg_c FF5 MM5 [(1, w_ 1), (0, s_ 0 (.cells (cn .u32 ((setTo 4 ks (lay0 0) 8).set 12 c)) 125))] 9 [] [1] (⟨by decide, rfl, (by rw [cn_size, (setTo_len16 _ _ _ _)]; decide), (.inl rfl), (cn_set _ _ _ _), fun _ wd8 FF8 MM8 => then_n ?_⟩))
    have MMr26 : MemS (fun k => k < w0.heap.size) w0 wd8 [(bw, .cells (cn .u32 (setTo 13 ns ((setTo 4 ks (lay0 0) 8).set 12 c) 0)) 125), (bn, .cells (cn .u8 ns) 44), (bk, .cells (cn .u8 ks) 41)] [] := MM8
    refine wp_seq ?_
    refine wp_seq (rg_c FF8 MMr26 [] 9 [9] [] (fun _ _ FF9 MM9 => then_n ?_))
    refine wp_for2 (fun a' w' => ∃ i : Nat, i ≤ 3 ∧ Fr 114 a' [(9, iN i), (8, iN 8), (7, pT bw), (6, sB []), (5, pT bn), (3, pT bk)] ∧ MemS (fun k => k < w0.heap.size) w0 w' [(bw, .cells (cn .u32 (setTo 13 ns ((setTo 4 ks (lay0 0) 8).set 12 c) i)) 125), (bn, .cells (cn .u8 ns) 44), (bk, .cells (cn .u8 ks) 41)] []) (fun a' _ => (3 - cnt 9 a').toNat) ⟨0, Nat.zero_le _, FF9.pick [0, 1, 2, 3, 4, 5], MM9⟩ ?_
    rintro ac10 wd10 ⟨i, hi, FF10, MM10⟩
    have hcn := cnt_of (FF10.get 0 rfl)
    refine rg_c FF10 MM10 [] 10 [36] [] (fun _ wd11 FF11 MM11 => ?_)
    by_cases hltn : i < 3
    · skip
      refine then_n (.inl ⟨(FF11.ev 0 rfl).trans (dec_t hltn), ?_⟩)
      refine rg_c FF11 MM11 [(7, w_ 2), (0, l_ 1 (sB (quad ns i))), (0, t_ (.int .u32 (cwdAt ns i : Nat))), (0, w_ 1), (0, s_ 0 (.cells (cn .u32 ((setTo 13 ns ((setTo 4 ks (lay0 0) 8).set 12 c) i).set (13 + i) (cwdAt ns i))) 125))] 9 [9] [] (⟨by omega, by omega, by omega, by omega, by omega, by omega, by omega, rfl, (by rw [← cutQ ns i (by rw [hns.len]; omega)]; exact str_part hns.len hns.lt (by omega)), (callP_of en_four (four_any (quad ns i) rfl (quad_lt hns.lt i)) _), by omega, rfl, (by rw [cn_size, (setTo_len13 _ _ _ _)]; omega), (.inl rfl), (cn_set _ _ _ _), fun _ wd12 FF12 MM12 => ?_⟩)
      have MMr37 : MemS (fun k => k < w0.heap.size) w0 wd12 [(bw, .cells (cn .u32 (setTo 13 ns ((setTo 4 ks (lay0 0) 8).set 12 c) (i + 1))) 125), (bn, .cells (cn .u8 ns) 44), (bk, .cells (cn .u8 ks) 41)] [] := MM12
      refine inb_n (then_n ?_)
      refine rg_c FF12 MMr37 [] 9 [9] [] (⟨by omega, fun _ _ FF13 MM13 => ?_⟩)
      have hdn := cnt_of (FF13.get 0 rfl)
      refine then_n ⟨⟨i + 1, by omega, FF13.pick [0, 1, 2, 3, 4, 5], MM13⟩, ?_⟩
      rw [hcn, hdn]; omega
    · skip
      refine then_n (.inr ⟨(FF11.ev 0 rfl).trans (dec_f hltn), ?_⟩)
      obtain rfl : i = 3 := by omega
      obtain ⟨l, el⟩ : ∃ z, laid ks c ns = z := ⟨_, rfl⟩
      have H : Words l := el ▸ laid_words hks hc hns
      have MMr48 : MemS (fun k => k < w0.heap.size) w0 wd11 [(bw, .cells (cn .u32 l) 125), (bn, .cells (cn .u8 ns) 44), (bk, .cells (cn .u8 ks) 41)] [] := by rw [← el]; exact MM11
      refine then_n ?_
      refine wp_seq (rg_c FF11 MMr48 [(0, b_ 0), (0, s_ 0 (.cells (cn .u32 (List.replicate 16 0)) 125)), (0, b_ 0)] 11 [] [] (⟨rfl, ((cn_size _ _).trans H.len), (by kernel_rfl), fun bx => ⟨rfl, ((cn_size _ _).trans (List.length_replicate ..)), ((cn_size _ _).trans H.len), (cn_one _ _), rfl, fun _ wd14 FF14 MM14 => then_n ?_⟩⟩))
      have MMr51 : MemS (fun k => k < w0.heap.size) w0 wd14 [(bx, .cells (cn .u32 (dblN l 0)) 125), (bw, .cells (cn .u32 l) 125), (bn, .cells (cn .u8 ns) 44), (bk, .cells (cn .u8 ks) 41)] [] := MM14
      refine wp_seq ?_
      refine wp_seq (rg_c FF14 MMr51 [] 12 [] [] (fun _ _ FF15 MM15 => then_n ?_))
      refine wp_for2 (fun a' w' => ∃ k : Nat, k ≤ 10 ∧ Fr 114 a' [(11, iN k), (10, pT bx), (9, iN 3), (8, iN 8), (7, pT bw), (6, sB []), (5, pT bn), (3, pT bk)] ∧ MemS (fun k => k < w0.heap.size) w0 w' [(bx, .cells (cn .u32 (dblN l k)) 125), (bw, .cells (cn .u32 l) 125), (bn, .cells (cn .u8 ns) 44), (bk, .cells (cn .u8 ks) 41)] []) (fun a' _ => (10 - cnt 11 a').toNat) ⟨0, Nat.zero_le _, FF15.pick [0, 1, 2, 3, 4, 5, 6, 7], MM15⟩ ?_
      rintro ac16 wd16 ⟨k, hk, FF16, MM16⟩
      have hck := cnt_of (FF16.get 0 rfl)
      refine rg_c FF16 MM16 [] 12 [52] [] (fun _ _ FF17 MM17 => ?_)
      by_cases hltk : k < 10
      · skip
        refine then_n (.inl ⟨(FF17.ev 0 rfl).trans (dec_t hltk), ?_⟩)
        refine wp_seq ?_
        refine wp_seq (rg_c FF17 MM17 [] 13 [] [] (fun _ wd18 FF18 MM18 => then_n ?_))
        have MMr63 : MemS (fun k => k < w0.heap.size) w0 wd18 [(bx, .cells (cn .u32 (colTo (dblN l k) 0)) 125), (bw, .cells (cn .u32 l) 125), (bn, .cells (cn .u8 ns) 44), (bk, .cells (cn .u8 ks) 41)] [] := MM18
        refine wp_for2 (fun a' w' => ∃ i : Nat, i ≤ 4 ∧ Fr 114 a' [(12, iN i), (11, iN k), (10, pT bx), (9, iN 3), (8, iN 8), (7, pT bw), (6, sB []), (5, pT bn), (3, pT bk)] ∧ MemS (fun k => k < w0.heap.size) w0 w' [(bx, .cells (cn .u32 (colTo (dblN l k) i)) 125), (bw, .cells (cn .u32 l) 125), (bn, .cells (cn .u8 ns) 44), (bk, .cells (cn .u8 ks) 41)] []) (fun a' _ => (4 - cnt 12 a').toNat) ⟨0, Nat.zero_le _, FF18.pick [0, 1, 2, 3, 4, 5, 6, 7, 8], MMr63⟩ ?_
        rintro ac19 wd19 ⟨i, hi, FF19, MM19⟩
        have hcn := cnt_of (FF19.get 0 rfl)
        refine rg_c FF19 MM19 [] 13 [56] [] (fun _ _ FF20 MM20 => ?_)
        by_cases hltn : i < 4
        · skip
          refine then_n (.inl ⟨(FF20.ev 0 rfl).trans (dec_t hltn), ?_⟩)
          refine rg_c FF20 MM20 [(0, b_ 0), (7, t_ (.agg (cn .u32 (qAt (colTo (dblN l k) i) i (4 + i) (8 + i) (12 + i))))), (0, b_ 0)] 13 [] [] (⟨rfl, ((cn_size _ _).trans ((H.dblN k).colTo i).len), by omega, by omega, by omega, (callP_of en_rquarter (rquarter_any (colTo (dblN l k) i) ((H.dblN k).colTo i) i (4 + i) (8 + i) (12 + i) (by omega) (by omega) (by omega) (by omega)) _), rfl, ((cn_size _ _).trans ((H.dblN k).colTo i).len), ((cn_size _ _).trans (((H.dblN k).colTo i).qAt i (4 + i) (8 + i) (12 + i)).len), (cn_one _ _), rfl, fun _ wd21 FF21 MM21 => ?_⟩)
          have MMr72 : MemS (fun k => k < w0.heap.size) w0 wd21 [(bx, .cells (cn .u32 (colTo (dblN l k) (i + 1))) 125), (bw, .cells (cn .u32 l) 125), (bn, .cells (cn .u8 ns) 44), (bk, .cells (cn .u8 ks) 41)] [] := MM21
          refine inb_n (then_n ?_)
          refine rg_c FF21 MMr72 [] 13 [] [] (⟨by omega, fun _ _ FF22 MM22 => ?_⟩)
          have hdn := cnt_of (FF22.get 0 rfl)
          refine then_n ⟨⟨i + 1, by omega, FF22.pick [0, 1, 2, 3, 4, 5, 6, 7, 8], MM22⟩, ?_⟩
          rw [hcn, hdn]; omega
        · skip
          refine then_n (.inr ⟨(FF20.ev 0 rfl).trans (dec_f hltn), ?_⟩)
          obtain rfl : i = 4 := by omega
          refine then_n ?_
          refine wp_seq (rg_c FF20 MM20 [] 14 [] [] (fun _ wd23 FF23 MM23 => then_n ?_))
          have MMr83 : MemS (fun k => k < w0.heap.size) w0 wd23 [(bx, .cells (cn .u32 (diagTo (colTo (dblN l k) 4) 0)) 125), (bw, .cells (cn .u32 l) 125), (bn, .cells (cn .u8 ns) 44), (bk, .cells (cn .u8 ks) 41)] [] := MM23
          refine wp_for2 (fun a' w' => ∃ i : Nat, i ≤ 4 ∧ Fr 114 a' [(13, iN i), (12, iN 4), (11, iN k), (10, pT bx), (9, iN 3), (8, iN 8), (7, pT bw), (6, sB []), (5, pT bn), (3, pT bk)] ∧ MemS (fun k => k < w0.heap.size) w0 w' [(bx, .cells (cn .u32 (diagTo (colTo (dblN l k) 4) i)) 125), (bw, .cells (cn .u32 l) 125), (bn, .cells (cn .u8 ns) 44), (bk, .cells (cn .u8 ks) 41)] []) (fun a' _ => (4 - cnt 13 a').toNat) ⟨0, Nat.zero_le _, FF23.pick [0, 1, 2, 3, 4, 5, 6, 7, 8, 9], MMr83⟩ ?_
          rintro ac24 wd24 ⟨i, hi, FF24, MM24⟩
          have hcn := cnt_of (FF24.get 0 rfl)
          refine rg_c FF24 MM24 [] 14 [69] [] (fun _ wd25 FF25 MM25 => ?_)
          by_cases hltn : i < 4
          · skip
            refine then_n (.inl ⟨(FF25.ev 0 rfl).trans (dec_t hltn), ?_⟩)
            refine rg_c FF25 MM25 [(0, b_ 0), (13, t_ (.agg (cn .u32 (qAt (diagTo (colTo (dblN l k) 4) i) i (4 + ((i + 1) % 4)) (8 + ((i + 2) % 4)) (12 + ((i + 3) % 4)))))), (0, b_ 0)] 14 [] [] (⟨rfl, ((cn_size _ _).trans (((H.dblN k).colTo 4).diagTo i).len), by omega, by decide, by omega, by omega, by decide, by omega, by omega, by decide, by omega, (callP_of en_rquarter (rquarter_any (diagTo (colTo (dblN l k) 4) i) (((H.dblN k).colTo 4).diagTo i) i (4 + ((i + 1) % 4)) (8 + ((i + 2) % 4)) (12 + ((i + 3) % 4)) (by omega) (by omega) (by omega) (by omega)) _), rfl, ((cn_size _ _).trans (((H.dblN k).colTo 4).diagTo i).len), ((cn_size _ _).trans ((((H.dblN k).colTo 4).diagTo i).qAt i (4 + ((i + 1) % 4)) (8 + ((i + 2) % 4)) (12 + ((i + 3) % 4))).len), (cn_one _ _), rfl, fun _ wd26 FF26 MM26 => ?_⟩)
            have MMr92 : MemS (fun k => k < w0.heap.size) w0 wd26 [(bx, .cells (cn .u32 (diagTo (colTo (dblN l k) 4) (i + 1))) 125), (bw, .cells (cn .u32 l) 125), (bn, .cells (cn .u8 ns) 44), (bk, .cells (cn .u8 ks) 41)] [] := MM26
            refine inb_n (then_n ?_)
            refine rg_c FF26 MMr92 [] 14 [] [] (⟨by omega, fun _ _ FF27 MM27 => ?_⟩)
            have hdn := cnt_of (FF27.get 0 rfl)
            refine then_n ⟨⟨i + 1, by omega, FF27.pick [0, 1, 2, 3, 4, 5, 6, 7, 8, 9], MM27⟩, ?_⟩
            rw [hcn, hdn]; omega
          · skip
            refine then_n (.inr ⟨(FF25.ev 0 rfl).trans (dec_f hltn), ?_⟩)
            obtain rfl : i = 4 := by omega
            have MMr101 : MemS (fun k => k < w0.heap.size) w0 wd25 [(bx, .cells (cn .u32 (dblN l (k + 1))) 125), (bw, .cells (cn .u32 l) 125), (bn, .cells (cn .u8 ns) 44), (bk, .cells (cn .u8 ks) 41)] [] := MM25
            refine inb_n (then_n ?_)
            refine rg_c FF25 MMr101 [] 14 [] [] (⟨by omega, fun _ _ FF28 MM28 => ?_⟩)
            have hdk := cnt_of (FF28.get 0 rfl)
            refine then_n ⟨⟨k + 1, by omega, FF28.pick [0, 3, 4, 5, 6, 7, 8, 9], MM28⟩, ?_⟩
            rw [hck, hdk]; omega
      · skip
        refine then_n (.inr ⟨(FF17.ev 0 rfl).trans (dec_f hltk), ?_⟩)
        obtain rfl : k = 10 := by omega
        refine then_n ?_
        refine wp_seq (rg_c FF17 MM17 [] 15 [] [] (fun _ wd29 FF29 MM29 => then_n ?_))
        have MMn112 := MM29.rowNil 5 1
        have MMn112 : MemS (fun k => k < w0.heap.size) w0 wd29 [(bx, .cells (cn .u32 (dblN l 10)) 125), (bw, .cells (cn .u32 l) 125), (bn, .cells (cn .u8 ns) 44), (bk, .cells (cn .u8 ks) 41)] [(.slice none 0 0, 5, 1, 0, (bcells (outTo (dblN l 10) l 0)))] := MMn112
        refine wp_seq ?_
        refine wp_seq (rg_c FF29 MMn112 [] 16 [] [] (fun _ _ FF30 MM30 => then_n ?_))
        refine wp_for2 (fun a' w' => ∃ rv : Value, ∃ i : Nat, i ≤ 16 ∧ Fr 114 a' [(15, iN i), (14, rv), (11, iN 10), (10, pT bx), (9, iN 3), (8, iN 8), (7, pT bw), (6, sB []), (5, pT bn), (3, pT bk)] ∧ MemS (fun k => k < w0.heap.size) w0 w' [(bx, .cells (cn .u32 (dblN l 10)) 125), (bw, .cells (cn .u32 l) 125), (bn, .cells (cn .u8 ns) 44), (bk, .cells (cn .u8 ks) 41)] [(rv, 5, 1, 4 * i, (bcells (outTo (dblN l 10) l i)))]) (fun a' _ => (16 - cnt 15 a').toNat) ⟨(.slice none 0 0), 0, Nat.zero_le _, FF30.pick [0, 1, 2, 3, 4, 5, 6, 7, 8, 9], MM30⟩ ?_
        rintro ac31 wd31 ⟨rv, i, hi, FF31, MM31⟩
        have hcn := cnt_of (FF31.get 0 rfl)
        refine rg_c FF31 MM31 [] 16 [88] [] (fun _ _ FF32 MM32 => ?_)
        by_cases hltn : i < 16
        · skip
          refine then_n (.inl ⟨(FF32.ev 0 rfl).trans (dec_t hltn), ?_⟩)
          refine wp_seq (rg_dc 8 FF32 MM32 [(1, w_ 1), (0, l_ 0 (.int .u32 ((dblN l 10).getD i 0 : Nat))), (1, w_ 1), (0, l_ 1 (.int .u32 (l.getD i 0 : Nat))), (0, t_ (.int .u32 (sumW (dblN l 10) l i : Nat)))] [] 17 [] [] (⟨by omega, rfl, (cn_get _ _ _ (by rw [(H.dblN 10).len]; omega)), by omega, rfl, (cn_get _ _ _ (by rw [H.len]; omega)), rfl, fun _ _ FF33 MM33 => then_n ?_⟩))
          refine wp_region_list ?_
          refine rp_c 13 FF33 MM33 [(2, t_ (iB (sumW (dblN l 10) l i % 256))), (1, t_ (.int .u32 ((sumW (dblN l 10) l i) / 256 : Nat))), (0, t_ (iB (sumW (dblN l 10) l i / 256 % 256))), (1, t_ (.int .u32 ((sumW (dblN l 10) l i) / 65536 : Nat))), (0, t_ (iB (sumW (dblN l 10) l i / 65536 % 256))), (1, t_ (.int .u32 ((sumW (dblN l 10) l i) / 16777216 : Nat))), (0, t_ (iB (sumW (dblN l 10) l i / 16777216 % 256))), (0, s_ 0 (.cells (cn .u8 ([sumW (dblN l 10) l i % 256, sumW (dblN l 10) l i / 256 % 256, sumW (dblN l 10) l i / 65536 % 256, sumW (dblN l 10) l i / 16777216 % 256])) 5))] 99 [110] [] (⟨rfl, by decide, rfl, rfl, by decide, rfl, rfl, by decide, rfl, rfl, (by kernel_rfl), fun bq => fun _ _ FF34 MM34 => ?_⟩)
          refine st_app [16, 15, 14, 11, 10, 9, 8, 7, 6, 5, 3, 111] FF34 MM34 (d := 111) (s := 98) (x := 110) (Y := (bcells [sumW (dblN l 10) l i % 256, sumW (dblN l 10) l i / 256 % 256, sumW (dblN l 10) l i / 65536 % 256, sumW (dblN l 10) l i / 16777216 % 256])) (z := iB 0) (bb := 1) rfl rfl rfl rfl (lies_cn8 (MM34.get 0 rfl)) (bcells_one _) (by decide) Try.underlying73 (by kernel_rfl) rfl (by decide) (by simp only [maxLen]; omega) (by omega) rfl rfl (by decide) fun ac36 wd36 rv35 FF36 MM36 => ?_
          have MMr37 : MemS (fun k => k < w0.heap.size) w0 wd36 [(bq, .cells (cn .u8 ([sumW (dblN l 10) l i % 256, sumW (dblN l 10) l i / 256 % 256, sumW (dblN l 10) l i / 65536 % 256, sumW (dblN l 10) l i / 16777216 % 256])) 5), (bx, .cells (cn .u32 (dblN l 10)) 125), (bw, .cells (cn .u32 l) 125), (bn, .cells (cn .u8 ns) 44), (bk, .cells (cn .u8 ks) 41)] [(rv35, 5, 1, (4 * i + 4), (bcells (outTo (dblN l 10) l (i + 1))))] := by rw [show (bcells (outTo (dblN l 10) l (i + 1))) = ((bcells (outTo (dblN l 10) l i)) ++ (bcells [sumW (dblN l 10) l i % 256, sumW (dblN l 10) l i / 256 % 256, sumW (dblN l 10) l i / 65536 % 256, sumW (dblN l 10) l i / 16777216 % 256])) from (bcells_app _ _).symm]; exact MM36
          refine rp_c 1 FF36 MMr37 [] 17 [] [] (fun _ _ FF38 MM38 => ?_)
          refine wpl_nil ?_
          refine inb_n (then_n ?_)
          refine rg_c FF38 MM38 [] 17 [] [] (⟨by omega, fun _ _ FF39 MM39 => ?_⟩)
          have hdn := cnt_of (FF39.get 0 rfl)
          refine then_n ⟨⟨rv35, i + 1, by omega, FF39.pick [0, 1, 3, 4, 5, 6, 7, 8, 9, 10], MM39.sub [1, 2, 3, 4] rfl⟩, ?_⟩
          rw [hcn, hdn]; omega
        · skip
          refine then_n (.inr ⟨(FF32.ev 0 rfl).trans (dec_f hltn), ?_⟩)
          obtain rfl : i = 16 := by omega
          refine then_n ?_
          refine wp_seq (wp_region_list ?_)
          refine rp_c 1 FF32 MM32 [] 16 [112] [] (fun _ _ FF40 MM40 => ?_)
          refine st_strS [15, 14, 11, 10, 9, 8, 7, 6, 5, 3, 113] FF40 MM40 (fun j => by rw [outTo_all]; exact blockW_lt l j) (d := 113) (s := 112) rfl rfl Try.underlying73 Try.underlying5 Try.underlying9 rfl rfl (by decide) fun _ FF41 => ?_
          refine rp_c 1 FF41 MM40 [] 16 [] [] (fun _ _ FF42 MM42 => ?_)
          refine wpl_nil (then_n ?_)
          refine wp_ret ?_
          repeat first | refine then_ret ?_ | refine inb_ret ?_
          exact (ret_fr FF42 0 Try.results68 rfl ⟨by subst el; rw [outTo_all]; rfl, MM42.below⟩)
end Go.Proofs.Ytniplfjnpjihoaa
namespace Go.Proofs.Ytniplfjnpjihoaa
open Go.RowKit
set_option maxHeartbeats 1000000 in
set_option maxRecDepth 100000 in
theorem rMask_any (ks ns X : List Nat) (c0 : Nat) (hks : Bytes 32 ks) (hc : c0 < 4294967296) (hns : Bytes 12 ns) (hX : ∀ i, X.getD i 0 < 256) (hl : X.length ≤ 1000000) (w0 : World) :
    Calls Try.prog 54 #[.agg (cn .u8 ks), .int .u32 (c0 : Nat), .agg (cn .u8 ns), sB X] w0 fun e w' => e = .returned (sB (maskN ks c0 ns X)) ∧ Below w0.heap.size w0 w' := by
  refine enter_fr Try.func54 rfl Try.ntmps54 (by simp) fun ac (FF : Fr 40 ac [(0, .agg (cn .u8 ks)), (1, .int .u32 (c0 : Nat)), (2, .agg (cn .u8 ns)), (3, sB X)]) => ?_
  have MM := MemS.start w0
  refine wp_seq (rg_c FF MM [(0, s_ 0 (.cells (cn .u8 ks) 41)), (0, s_ 0 (.cells (cn .u8 ns) 44)), (0, t_ (sB []))] 9 [] [0, 2] (⟨(by kernel_rfl), fun bk => ⟨(by kernel_rfl), fun bn => ⟨(by kernel_rfl), fun _ _ FF1 MM1 => then_n ?_⟩⟩⟩))
  refine wp_seq (rg_c FF1 MM1 [] 9 [9] [] (fun _ wd2 FF2 MM2 => then_n ?_))
  have MMn4 := MM2.rowNil 5 1
  have MMn4 : MemS (fun k => k < w0.heap.size) w0 wd2 [(bn, .cells (cn .u8 ns) 44), (bk, .cells (cn .u8 ks) 41)] [(.slice none 0 0, 5, 1, 0, (bcells (mkTo ks c0 ns X 0)))] := MMn4
  refine wp_seq (rg_c FF2 MMn4 [(0, t_ (sB []))] 11 [] [] (⟨(by kernel_rfl), fun _ _ FF3 MM3 => then_n ?_⟩))
  refine wp_seq ?_
  refine wp_seq (rg_c FF3 MM3 [] 12 [] [] (fun _ _ FF4 MM4 => then_n ?_))
  refine wp_for2 (fun a' w' => ∃ rv : Value, ∃ i : Nat, ∃ B : List Nat, ∃ q : Nat, i ≤ X.length ∧ (i % 64 ≠ 0 → B = blockN ks ((c0 + i / 64) % 4294967296) ns) ∧ q = (c0 + (i + 63) / 64) % 4294967296 ∧ (∀ j, B.getD j 0 < 256) ∧ Fr 40 a' [(11, iN i), (10, sB B), (9, rv), (8, sB []), (6, pT bn), (4, pT bk), (1, .int .u32 (q : Nat)), (3, sB X)] ∧ MemS (fun k => k < w0.heap.size) w0 w' [(bn, .cells (cn .u8 ns) 44), (bk, .cells (cn .u8 ks) 41)] [(rv, 5, 1, i, (bcells (mkTo ks c0 ns X i)))]) (fun a' _ => (X.length - cnt 11 a').toNat) ⟨(.slice none 0 0), 0, [], c0, Nat.zero_le _, (fun h => absurd rfl h), by omega, (fun j => by simp), FF4.pick [0, 1, 2, 3, 4, 5, 6, 7], MM4⟩ ?_
  rintro ac5 wd5 ⟨rv, i, B, q, hi, hB, hq, hBb, FF5, MM5⟩
  have hcn := cnt_of (FF5.get 0 rfl)
  refine rg_c FF5 MM5 [(2, t_ (iN X.length))] 12 [15] [] (⟨(vI (bs_size _)), fun _ _ FF6 MM6 => ?_⟩)
  by_cases hltn : i < X.length
  · skip
    refine then_n (.inl ⟨(FF6.ev 0 rfl).trans (dec_t hltn), ?_⟩)
    refine wp_seq ?_
    by_cases h64 : i % 64 = 0
    · skip
      refine wp_seq (rg_c FF6 MM6 [(2, w_ 2)] 12 [20] [] (⟨by decide, h64, fun _ _ FF7 MM7 => then_n ?_⟩))
      refine wp_cond_true (FF7.ev 0 rfl) ?_
      have hqb : q < 4294967296 := hq ▸ Nat.mod_lt _ (by decide)
      have hqe : q = (c0 + i / 64) % 4294967296 := by rw [hq]; congr 2; omega
      refine wp_seq (rg_c FF7 MM7 [(0, b_ 1), (1, b_ 0), (0, t_ (sB (blockN ks q ns)))] 12 [] [] (⟨rfl, ((cn_size _ _).trans hks.len), rfl, ((cn_size _ _).trans hns.len), (callP_of en_rBlock (rBlock_any ks ns q ⟨hks.len, hks.lt⟩ hqb ⟨hns.len, hns.lt⟩) _), fun _ _ FF8 MM8 => then_n ?_⟩))
      refine rg_c FF8 MM8 [] 12 [] [] (fun _ _ FF9 MM9 => ?_)
      refine then_n ?_
      have hE : blockN ks q ns = blockN ks ((c0 + i / 64) % 4294967296) ns := by rw [hqe]
      have hBN : ∀ j, (blockN ks q ns).getD j 0 < 256 := blockW_lt _
      have hlB : (blockN ks q ns).length = 64 := by rw [hE]; exact blockW_len _
      have hN : (i + 1) % 64 ≠ 0 → blockN ks q ns = blockN ks ((c0 + ((i + 1) / 64)) % 4294967296) ns := fun h => by rw [hE, show (i + 1) / 64 = i / 64 by omega]
      have hm := mkTo_succ ks c0 ns X i
      rw [← hE] at hm
      obtain ⟨z, hz⟩ : ∃ z, X.getD i 0 ^^^ (blockN ks q ns).getD (i % 64) 0 = z := ⟨_, rfl⟩
      rw [hz] at hm
      refine rg_drawL FF9 MM9 [.inl (rv), .inl (sB X), .inl (iN i), .inl (iB (X.getD i 0)), .inl (sB (blockN ks q ns)), .inl (iN i), .inl (iN (i % 64)), .inl (iB ((blockN ks q ns).getD (i % 64) 0)), .inl (iB z), .inr (.cells (cn .u8 [z]) 5, fun b => .slice (some ⟨b, 0, none⟩) 1 1)] [] [o_, o_, o_, t_ (iB (X.getD i 0)), o_, o_, o_, t_ (iB ((blockN ks q ns).getD (i % 64) 0)), t_ (iB z), o_] [36, 27, 1, 10, 11, 9, 8, 6, 4, 3] (fun nb => [i < (bs X).size, (nl (bs X)).getD i 0 = X.getD i 0, 64 ≠ 0, (i % 64) < (bs (blockN ks q ns)).size, (nl (bs (blockN ks q ns))).getD (i % 64) 0 = (blockN ks q ns).getD (i % 64) 0, (X.getD i 0) < 256, ((blockN ks q ns).getD (i % 64) 0) < 256, iB ((X.getD i 0) ^^^ ((blockN ks q ns).getD (i % 64) 0)) = iB z]) (by kernel_rfl) (by kernel_rfl) (by kernel_rfl) (fun _ => by kernel_rfl) (trivial) (fun nb => ⟨(by simp only [bs_size]; omega), (byte_bs hX _), by decide, (by simp only [bs_size, hlB]; omega), (byte_bs (blockW_lt _) _), (by have := hX i; omega), (by have := hBN (i % 64); omega), (vI hz), trivial⟩) fun nb ac10 wd10 (FF10 : Fr 40 ac10 [(36, .slice (some ⟨(nb 9), 0, none⟩) 1 1), (27, rv), (1, .int .u32 ((q + 1) % 4294967296 : Nat)), (10, sB (blockN ks q ns)), (11, iN i), (9, rv), (8, sB []), (6, pT bn), (4, pT bk), (3, sB X)]) (MM10 : MemS (fun k => k < w0.heap.size) w0 wd10 [(bn, .cells (cn .u8 ns) 44), (bk, .cells (cn .u8 ks) 41)] [(rv, 5, 1, i, (bcells (mkTo ks c0 ns X i)))]) hfx11 => ?_
      have hb_bq : wd10.heap[nb 9]? = some (.cells (cn .u8 [z]) 5) := hfx11.1.2
      clear hfx11
      generalize nb 9 = bq at *
      refine st_app [1, 10, 11, 9, 8, 6, 4, 3, 37] FF10 MM10 (d := 37) (s := 27) (x := 36) (Y := (bcells [z])) (z := iB 0) (bb := 1) rfl rfl rfl rfl (lies_cn8 hb_bq) (bcells_one _) (by decide) Try.underlying73 (by kernel_rfl) rfl (by decide) (by simp only [maxLen]; omega) (by omega) rfl rfl (by decide) fun ac14 wd14 rv13 FF14 MM14 => ?_
      have MMr15 : MemS (fun k => k < w0.heap.size) w0 wd14 [(bn, .cells (cn .u8 ns) 44), (bk, .cells (cn .u8 ks) 41)] [(rv13, 5, 1, (i + 1), (bcells (mkTo ks c0 ns X (i + 1))))] := by rw [show (bcells (mkTo ks c0 ns X (i + 1))) = ((bcells (mkTo ks c0 ns X i)) ++ (bcells [z])) by rw [hm]; exact (bcells_app _ _).symm]; exact MM14
      refine rp_c 1 FF14 MMr15 [] 12 [] [] (fun _ _ FF16 MM16 => ?_)
      refine wpl_nil ?_
      refine inb_n (then_n ?_)
      refine rg_c FF16 MM16 [] 12 [] [] (⟨by omega, fun _ _ FF17 MM17 => ?_⟩)
      have hdn := cnt_of (FF17.get 0 rfl)
      refine then_n ⟨⟨rv13, i + 1, blockN ks q ns, (q + 1) % 4294967296, by omega, (fun h => hN h), by omega, hBN, FF17.pick [0, 3, 1, 4, 5, 6, 2, 7], MM17⟩, ?_⟩
      rw [hcn, hdn]; omega
    · skip
      refine wp_seq (rg_c FF6 MM6 [(2, w_ 3)] 12 [20] [] (⟨by decide, h64, fun _ _ FF18 MM18 => then_n ?_⟩))
      refine wp_cond_false (FF18.ev 0 rfl) ?_
      refine wp_skip ?_
      refine then_n ?_
      have hE : B = blockN ks ((c0 + i / 64) % 4294967296) ns := hB h64
      have hBN : ∀ j, (B).getD j 0 < 256 := hBb
      have hlB : (B).length = 64 := by rw [hE]; exact blockW_len _
      have hN : (i + 1) % 64 ≠ 0 → B = blockN ks ((c0 + ((i + 1) / 64)) % 4294967296) ns := fun h => by rw [hE, show (i + 1) / 64 = i / 64 by omega]
      have hm := mkTo_succ ks c0 ns X i
      rw [← hE] at hm
      obtain ⟨z, hz⟩ : ∃ z, X.getD i 0 ^^^ (B).getD (i % 64) 0 = z := ⟨_, rfl⟩
      rw [hz] at hm
      refine rg_drawL FF18 MM18 [.inl (rv), .inl (sB X), .inl (iN i), .inl (iB (X.getD i 0)), .inl (sB B), .inl (iN i), .inl (iN (i % 64)), .inl (iB ((B).getD (i % 64) 0)), .inl (iB z), .inr (.cells (cn .u8 [z]) 5, fun b => .slice (some ⟨b, 0, none⟩) 1 1)] [] [o_, o_, o_, t_ (iB (X.getD i 0)), o_, o_, o_, t_ (iB ((B).getD (i % 64) 0)), t_ (iB z), o_] [36, 27, 11, 10, 9, 8, 6, 4, 1, 3] (fun nb => [i < (bs X).size, (nl (bs X)).getD i 0 = X.getD i 0, 64 ≠ 0, (i % 64) < (bs B).size, (nl (bs B)).getD (i % 64) 0 = (B).getD (i % 64) 0, (X.getD i 0) < 256, ((B).getD (i % 64) 0) < 256, iB ((X.getD i 0) ^^^ ((B).getD (i % 64) 0)) = iB z]) (by kernel_rfl) (by kernel_rfl) (by kernel_rfl) (fun _ => by kernel_rfl) (trivial) (fun nb => ⟨(by simp only [bs_size]; omega), (byte_bs hX _), by decide, (by simp only [bs_size, hlB]; omega), (byte_bs hBb _), (by have := hX i; omega), (by have := hBN (i % 64); omega), (vI hz), trivial⟩) fun nb ac19 wd19 (FF19 : Fr 40 ac19 [(36, .slice (some ⟨(nb 9), 0, none⟩) 1 1), (27, rv), (11, iN i), (10, sB B), (9, rv), (8, sB []), (6, pT bn), (4, pT bk), (1, .int .u32 (q : Nat)), (3, sB X)]) (MM19 : MemS (fun k => k < w0.heap.size) w0 wd19 [(bn, .cells (cn .u8 ns) 44), (bk, .cells (cn .u8 ks) 41)] [(rv, 5, 1, i, (bcells (mkTo ks c0 ns X i)))]) hfx20 => ?_
      have hb_bq : wd19.heap[nb 9]? = some (.cells (cn .u8 [z]) 5) := hfx20.1.2
      clear hfx20
      generalize nb 9 = bq at *
      refine st_app [11, 10, 9, 8, 6, 4, 1, 3, 37] FF19 MM19 (d := 37) (s := 27) (x := 36) (Y := (bcells [z])) (z := iB 0) (bb := 1) rfl rfl rfl rfl (lies_cn8 hb_bq) (bcells_one _) (by decide) Try.underlying73 (by kernel_rfl) rfl (by decide) (by simp only [maxLen]; omega) (by omega) rfl rfl (by decide) fun ac23 wd23 rv22 FF23 MM23 => ?_
      have MMr24 : MemS (fun k => k < w0.heap.size) w0 wd23 [(bn, .cells (cn .u8 ns) 44), (bk, .cells (cn .u8 ks) 41)] [(rv22, 5, 1, (i + 1), (bcells (mkTo ks c0 ns X (i + 1))))] := by rw [show (bcells (mkTo ks c0 ns X (i + 1))) = ((bcells (mkTo ks c0 ns X i)) ++ (bcells [z])) by rw [hm]; exact (bcells_app _ _).symm]; exact MM23
      refine rp_c 1 FF23 MMr24 [] 12 [] [] (fun _ _ FF25 MM25 => ?_)
      refine wpl_nil ?_
      refine inb_n (then_n ?_)
      refine rg_c FF25 MM25 [] 12 [] [] (⟨by omega, fun _ _ FF26 MM26 => ?_⟩)
      have hdn := cnt_of (FF26.get 0 rfl)
      refine then_n ⟨⟨rv22, i + 1, B, q, by omega, (fun h => hN h), by omega, hBN, FF26.pick [0, 2, 1, 3, 4, 5, 6, 7], MM26⟩, ?_⟩
      rw [hcn, hdn]; omega
  · skip
    refine then_n (.inr ⟨(FF6.ev 0 rfl).trans (dec_f hltn), ?_⟩)
    obtain rfl : i = X.length := by omega
    refine then_n ?_
    refine wp_seq (wp_region_list ?_)
    refine rp_c 1 FF6 MM6 [] 12 [38] [] (fun _ _ FF27 MM27 => ?_)
    refine st_strS [11, 10, 9, 8, 6, 4, 1, 3, 39] FF27 MM27 (fun j => by rw [mkTo_all]; exact maskN_lt ks c0 ns X hX j) (d := 39) (s := 38) rfl rfl Try.underlying73 Try.underlying5 Try.underlying9 rfl rfl (by decide) fun _ FF28 => ?_
    refine rp_c 1 FF28 MM27 [] 12 [] [] (fun _ _ FF29 MM29 => ?_)
    refine wpl_nil (then_n ?_)
    refine wp_ret ?_
    repeat first | refine then_ret ?_ | refine inb_ret ?_
    exact (ret_fr FF29 0 Try.results54 rfl ⟨by rw [mkTo_all], MM29.below⟩)
end Go.Proofs.Ytniplfjnpjihoaa
namespace Go.Proofs.Ytniplfjnpjihoaa
open Go.RowKit
theorem en_rpad : Enters Try.prog 70 := fun args w => by simp [go_sem]
theorem en_reight : Enters Try.prog 71 := fun args w => by simp [go_sem]
theorem en_rtag : Enters Try.prog 55 := fun args w => by simp [go_sem]
theorem en_rPoly : Enters Try.prog 69 := fun args w => by simp [go_sem]
theorem en_rSeal : Enters Try.prog 39 := fun args w => by simp [go_sem]
theorem en_rOpen : Enters Try.prog 42 := fun args w => by simp [go_sem]
set_option maxRecDepth 100000 in
theorem rpad_any (X : List Nat) (hl : X.length < 4611686018427387904) (w0 : World) :
    Calls Try.prog 70 #[sB X] w0 fun e w' => e = .returned (sB (X ++ missN X)) ∧ Below w0.heap.size w0 w' := by
  refine enter_fr Try.func70 rfl Try.ntmps70 (by simp) fun ac (FF : Fr 10 ac [(0, sB X)]) => ?_
  have MM := MemS.start w0
  refine wp_seq (rg_c FF MM [(0, t_ (sB []))] 3 [] [] (⟨(by kernel_rfl), fun ac1 _ FF1 MM1 => then_n ?_⟩))
  have FFx : Fr 10 ac1 [(2, sB []), (0, sB (X ++ List.replicate 0 0))] := by simpa using FF1
  refine wp_seq ?_
  refine wp_for2w (fun a' w' => ∃ k : Nat, k ≤ (16 - X.length % 16) % 16 ∧ Fr 10 a' [(2, sB []), (0, sB (X ++ List.replicate k 0))] ∧ MemS (fun k => k < w0.heap.size) w0 w' [] []) (fun a' _ => X.length + 16 - strLen 0 a') ⟨0, Nat.zero_le _, FFx.pick [0, 1], MM1⟩ ?_
  rintro ac2 wd2 ⟨k, hk, FF2, MM2⟩
  have hc := strLen_of (FF2.get 1 rfl)
  refine rg_c FF2 MM2 [(1, t_ (iN (X.length + k)))] 3 [6] [] (⟨(vI ((bs_size _).trans (rep_len _ _))), by decide, fun _ _ FF3 MM3 => ?_⟩)
  by_cases hlt : ((X.length + k) % 16) ≠ 0
  · skip
    refine then_n (.inl ⟨(FF3.ev 0 rfl).trans (dec_t hlt), ?_⟩)
    refine rg_c FF3 MM3 [(1, t_ (sB (X ++ List.replicate (k + 1) 0)))] 3 [] [] (⟨(show (bs (X ++ List.replicate k 0)).size + (bs [0]).size ≤ 9223372036854775807 from (by rw [bs_size, bs_size, rep_len]; simp; omega)), (Eq.trans (show _ = Value.string (bs (X ++ List.replicate k 0) ++ bs [0]) by kernel_rfl) (vS2 ((bs_app _ _).trans (congrArg bs (by rw [List.append_assoc, ← List.replicate_succ']))))), fun _ _ FF4 MM4 => ?_⟩)
    refine inb_n ?_
    have hd := strLen_of (FF4.get 0 rfl)
    refine then_n ⟨⟨k + 1, by omega, FF4.pick [1, 0], MM4⟩, ?_⟩
    rw [hc, hd, bs_size, bs_size, rep_len, rep_len]; omega
  · skip
    refine then_n (.inr ⟨(FF3.ev 0 rfl).trans (dec_f hlt), ?_⟩)
    obtain rfl : k = (16 - X.length % 16) % 16 := by omega
    refine then_n ?_
    refine wp_seq (rg_c FF3 MM3 [] 3 [] [] (fun _ _ FF5 MM5 => then_n ?_))
    refine wp_ret ?_
    repeat first | refine then_ret ?_ | refine inb_ret ?_
    exact (ret_fr FF5 0 Try.results70 rfl ⟨rfl, MM5.below⟩)
set_option maxRecDepth 100000 in
theorem reight_any (n : Nat) (hl : n < 4611686018427387904) (w0 : World) :
    Calls Try.prog 71 #[iN n] w0 fun e w' => e = .returned (sB (leB 8 n)) ∧ Below w0.heap.size w0 w' := by
  refine enter_fr Try.func71 rfl Try.ntmps71 (by simp) fun ac (FF : Fr 20 ac [(0, iN n)]) => ?_
  have MM := MemS.start w0
  refine wp_seq (rg_c FF MM [(0, t_ (sB []))] 3 [] [] (⟨(by kernel_rfl), fun _ _ FF1 MM1 => then_n ?_⟩))
  refine wp_seq (rg_c FF1 MM1 [] 4 [] [] (fun _ _ FF2 MM2 => then_n ?_))
  have MMn := MM2.rowNil 5 1
  refine wp_seq ?_
  refine wp_seq (rg_c FF2 MMn [] 5 [] [] (fun _ _ FF3 MM3 => then_n ?_))
  refine wp_for2 (fun a' w' => ∃ rv : Value, ∃ i : Nat, i ≤ 8 ∧ Fr 20 a' [(4, iN i), (3, rv), (2, sB []), (0, iN n)] ∧ MemS (fun k => k < w0.heap.size) w0 w' [] [(rv, 5, 1, i, (bcells (leB i n)))]) (fun a' _ => (8 - cnt 4 a').toNat) ⟨(.slice none 0 0), 0, by omega, FF3.pick [0, 1, 2, 3], MM3⟩ ?_
  rintro ac4 wd4 ⟨rv, i, hi, FF4, MM4⟩
  have hc := cnt_of (FF4.get 0 rfl)
  refine rg_c FF4 MM4 [] 5 [6] [] (fun _ _ FF5 MM5 => ?_)
  by_cases hlt : i < 8
  · skip
    refine then_n (.inl ⟨(FF5.ev 0 rfl).trans (dec_t hlt), ?_⟩)
    refine wp_region_list ?_
    refine rp_c 8 FF5 MM5 [(2, w_ 1), (3, t_ (iB (n / 256 ^ i % 256))), (0, s_ 0 (.cells (cn .u8 ([n / 256 ^ i % 256])) 5))] 10 [16] [6] (⟨by omega, by omega, (by show _ ≤ 64; omega), (vI (by rw [Nat.pow_mul])), (by kernel_rfl), fun bq => fun _ _ FF6 MM6 => ?_⟩)
    refine st_app [4, 3, 2, 0, 17] FF6 MM6 (d := 17) (s := 9) (x := 16) (Y := (bcells [n / 256 ^ i % 256])) (z := iB 0) (bb := 1) rfl rfl rfl rfl (lies_cn8 (MM6.get 0 rfl)) (bcells_one _) (by decide) Try.underlying73 (by kernel_rfl) rfl (by decide) (by simp only [maxLen]; omega) (by omega) rfl rfl (by decide) fun ac8 wd8 rv7 FF8 MM8 => ?_
    rw [bcells_app, ← leB_more] at MM8
    refine rp_c 1 FF8 MM8 [] 5 [] [] (fun _ _ FF9 MM9 => ?_)
    refine wpl_nil ?_
    refine inb_n (then_n ?_)
    refine rg_c FF9 MM9 [] 5 [] [] (⟨by omega, fun _ _ FF10 MM10 => ?_⟩)
    have hd := cnt_of (FF10.get 0 rfl)
    refine then_n ⟨⟨rv7, i + 1, by omega, FF10.pick [0, 1, 2, 3], MM10.sub [] rfl⟩, ?_⟩
    rw [hc, hd]; omega
  · skip
    refine then_n (.inr ⟨(FF5.ev 0 rfl).trans (dec_f hlt), ?_⟩)
    obtain rfl : i = 8 := by omega
    refine then_n ?_
    refine wp_seq (wp_region_list ?_)
    refine rp_c 1 FF5 MM5 [] 5 [18] [] (fun _ _ FF11 MM11 => ?_)
    refine st_strS [4, 3, 2, 0, 19] FF11 MM11 (leB_lt 8 n) (d := 19) (s := 18) rfl rfl Try.underlying73 Try.underlying5 Try.underlying9 rfl rfl (by decide) fun _ FF12 => ?_
    refine rp_c 1 FF12 MM11 [] 5 [] [] (fun _ _ FF13 MM13 => ?_)
    refine wpl_nil (then_n ?_)
    refine wp_ret ?_
    repeat first | refine then_ret ?_ | refine inb_ret ?_
    exact (ret_fr FF13 0 Try.results71 rfl ⟨rfl, MM13.below⟩)
set_option maxRecDepth 100000 in
theorem rtag_any (K N : List Nat) (hK : Bytes 32 K) (hN : Bytes 12 N) (E C : List Nat) (hE : ∀ i, E.getD i 0 < 256) (hC : ∀ i, C.getD i 0 < 256) (hl : E.length < 1000000) (hl2 : C.length < 1000000) (w0 : World) :
    Calls Try.prog 55 #[.agg (cn .u8 K), .agg (cn .u8 N), sB E, sB C] w0 fun e w' => e = .returned (sB (tagA K N E C)) ∧ Below w0.heap.size w0 w' := by
  refine enter_fr Try.func55 rfl Try.ntmps55 (by simp) fun ac (FF : Fr 35 ac [(0, .agg (cn .u8 K)), (1, .agg (cn .u8 N)), (2, sB E), (3, sB C)]) => ?_
  have MM := MemS.start w0
  refine wp_seq (rg_c FF MM [(0, s_ 0 (.cells (cn .u8 K) 41)), (0, s_ 0 (.cells (cn .u8 N) 44)), (0, t_ (sB []))] 9 [] [0, 1] (⟨(by kernel_rfl), fun bk => ⟨(by kernel_rfl), fun bn => ⟨(by kernel_rfl), fun _ _ FF1 MM1 => then_n ?_⟩⟩⟩))
  refine wp_seq (rg_c FF1 MM1 [(0, t_ (.agg (cn .u8 (List.replicate 32 0)))), (0, s_ 0 (.cells (cn .u8 (List.replicate 32 0)) 41)), (0, b_ 0)] 9 [9] [] (⟨(by kernel_rfl), (by kernel_rfl), fun bo => ⟨rfl, ((cn_size _ _).trans (List.length_replicate ..)), ((cn_size _ _).trans (List.length_replicate ..)), (cn_one _ _), rfl, fun _ _ FF2 MM2 => then_n ?_⟩⟩))
  refine wp_seq (rg_dc 5 FF2 MM2 [(1, b_ 2), (0, b_ 1), (0, t_ (sB (blockN K 0 N))), (0, t_ (sB (onceN K N)))] [(0, r_ (iN (min (onceN K N).length 32)) [(0, .cells (cn .u8 (onceN K N)) 41)])] 4 [9, 8] [] (⟨by decide, by decide, by decide, rfl, ((cn_size _ _).trans hK.len), rfl, ((cn_size _ _).trans hN.len), (callP_of en_rBlock (rBlock_any K N 0 ⟨hK.len, hK.lt⟩ (by decide) ⟨hN.len, hN.lt⟩) _), (Nat.zero_le _), (by rw [bs_size, show (blockN K 0 N).length = 64 from (blockW_len _)]; omega), (vS2 ((bs_extract _ _ _).trans (congrArg bs (List.drop_zero ..)))), (copyStr_ok (p := .tmp 12) (q := .tmp 16) (t := 73) (tq := 9) (e := 5) (T := 41) (off := 0) (len := 32) (X := onceN K N) (cs := cn .u8 (List.replicate 32 0)) (i := 0) (by kernel_rfl) rfl rfl (onceN_bytes K N).lt Try.underlying73 (by kernel_rfl) rfl (by rw [cn_size, List.length_replicate]; decide) (by rw [List.take_of_length_le (by rw [(onceN_bytes K N).len]; decide)]; exact setFrom_new8 (by rw [List.length_replicate, (onceN_bytes K N).len]))), fun _ _ FF3 MM3 => then_n ?_⟩))
  refine wp_seq (rg_draw FF3 MM3 [.inl (.agg (cn .u8 (onceN K N))), .inl (sB E), .inl (sB (E ++ missN E)), .inl (sB C), .inl (sB (C ++ missN C)), .inl (sB ((E ++ missN E) ++ (C ++ missN C))), .inl (sB E), .inl (iN E.length), .inl (sB (leB 8 E.length)), .inl (sB (((E ++ missN E) ++ (C ++ missN C)) ++ (leB 8 E.length))), .inl (sB C), .inl (iN C.length), .inl (sB (leB 8 C.length)), .inl (sB (tagT E C)), .inl (.agg (cn .u8 (tagA K N E C))), .inr (.cells (cn .u8 (List.replicate 16 0)) 50, fun b => pT b)] [15] [b_ 0, o_, t_ (sB (E ++ missN E)), o_, t_ (sB (C ++ missN C)), t_ (sB ((E ++ missN E) ++ (C ++ missN C))), o_, t_ (iN E.length), t_ (sB (leB 8 E.length)), t_ (sB (((E ++ missN E) ++ (C ++ missN C)) ++ (leB 8 E.length))), o_, t_ (iN C.length), t_ (sB (leB 8 C.length)), t_ (sB (tagT E C)), t_ (.agg (cn .u8 (tagA K N E C))), o_] [b_ 0] [9, 8, 10] (fun nb => [bo = bo, (cn .u8 (onceN K N)).size = 32, CallP Try.prog 70 [sB E] [] (sB (E ++ missN E)), CallP Try.prog 70 [sB C] [] (sB (C ++ missN C)), (bs (E ++ missN E)).size + (bs (C ++ missN C)).size ≤ 9223372036854775807, Value.string (bs (E ++ missN E) ++ bs (C ++ missN C)) = sB ((E ++ missN E) ++ (C ++ missN C)), iN ((bs E).size) = iN E.length, CallP Try.prog 71 [iN E.length] [] (sB (leB 8 E.length)), (bs ((E ++ missN E) ++ (C ++ missN C))).size + (bs (leB 8 E.length)).size ≤ 9223372036854775807, Value.string (bs ((E ++ missN E) ++ (C ++ missN C)) ++ bs (leB 8 E.length)) = sB (((E ++ missN E) ++ (C ++ missN C)) ++ (leB 8 E.length)), iN ((bs C).size) = iN C.length, CallP Try.prog 71 [iN C.length] [] (sB (leB 8 C.length)), (bs (((E ++ missN E) ++ (C ++ missN C)) ++ (leB 8 E.length))).size + (bs (leB 8 C.length)).size ≤ 9223372036854775807, Value.string (bs (((E ++ missN E) ++ (C ++ missN C)) ++ (leB 8 E.length)) ++ bs (leB 8 C.length)) = sB (tagT E C), CallP Try.prog 69 [.agg (cn .u8 (onceN K N)), sB (tagT E C)] [] (.agg (cn .u8 (tagA K N E C)))]) (fun nb Kt => (nb 15) = (nb 15) ∧ (cn .u8 (List.replicate 16 0)).size = 16 ∧ (cn .u8 (tagA K N E C)).size = 16 ∧ (cn .u8 (tagA K N E C)).all (·.oneCell') = true ∧ (0, 0).2 = 0 ∧ Kt [(10, pT (nb 15)), (9, pT bo), (8, sB [])] [((nb 15), .cells (cn .u8 (tagA K N E C)) 50), (bo, .cells (cn .u8 (onceN K N)) 41), (bn, .cells (cn .u8 N) 44), (bk, .cells (cn .u8 K) 41)]) (by kernel_rfl) (by kernel_rfl) (by kernel_rfl) (fun _ => by kernel_rfl) (fun _ _ => by kernel_rfl) ⟨⟨_, rfl⟩, rfl, trivial⟩ (fun nb => ⟨rfl, ((cn_size _ _).trans (onceN_bytes K N).len), (callP_of en_rpad (rpad_any E (by omega)) _), (callP_of en_rpad (rpad_any C (by omega)) _), (by simp only [bs_size, List.length_append]; have := missN_len E; have := missN_len C; omega), (vS2 (bs_app _ _)), (vI (bs_size _)), (callP_of en_reight (reight_any E.length (by omega)) _), (by simp only [bs_size, List.length_append, leB_len]; have := missN_len E; have := missN_len C; omega), (vS2 (bs_app _ _)), (vI (bs_size _)), (callP_of en_reight (reight_any C.length (by omega)) _), (by simp only [bs_size, List.length_append, leB_len]; have := missN_len E; have := missN_len C; omega), (vS2 (bs_app _ _)), (callP_of en_rPoly (rPoly_any (onceN K N) (tagT E C) ⟨(onceN_bytes K N).len, (onceN_bytes K N).lt⟩ (tagT_lt hE hC) (by have := tagT_len E C; omega)) _), trivial⟩) (fun nb => ⟨rfl, ((cn_size _ _).trans (List.length_replicate ..)), ((cn_size _ _).trans (tagA_len _ _ _ _)), (cn_one _ _), rfl, fun _ _ FF4 MM4 => then_n ?_⟩))
  generalize nb 15 = bt at *
  refine wp_seq (rg_c FF4 MM4 [(1, l_ 0 (sB (tagA K N E C)))] 11 [] [] (⟨by decide, by decide, by decide, rfl, (str_all (tagA_len _ _ _ _) (tagA_lt _ _ _ _)), fun _ _ FF5 MM5 => then_n ?_⟩))
  refine wp_ret ?_
  repeat first | refine then_ret ?_ | refine inb_ret ?_
  exact (ret_fr FF5 0 Try.results55 rfl ⟨rfl, MM5.below⟩)
set_option maxRecDepth 100000 in
theorem rseal_any (K N : List Nat) (hK : Bytes 32 K) (hN : Bytes 12 N) (E X : List Nat) (hE : ∀ i, E.getD i 0 < 256) (hX : ∀ i, X.getD i 0 < 256) (hl : E.length < 1000000) (hl2 : X.length ≤ 300) (w0 : World) :
    Calls Try.prog 39 #[.agg (cn .u8 K), .agg (cn .u8 N), sB E, sB X] w0 fun e w' => e = .returned (sB (sealN K N E X)) ∧ Below w0.heap.size w0 w' := by
  refine enter_fr Try.func39 rfl Try.ntmps39 (by simp) fun ac (FF : Fr 21 ac [(0, .agg (cn .u8 K)), (1, .agg (cn .u8 N)), (2, sB E), (3, sB X)]) => ?_
  have MM := MemS.start w0
  refine wp_seq (rg_c FF MM [(0, s_ 0 (.cells (cn .u8 K) 41)), (0, s_ 0 (.cells (cn .u8 N) 44)), (0, t_ (sB []))] 9 [] [0, 1] (⟨(by kernel_rfl), fun bk => ⟨(by kernel_rfl), fun bn => ⟨(by kernel_rfl), fun _ _ FF1 MM1 => then_n ?_⟩⟩⟩))
  refine wp_seq (rg_c FF1 MM1 [(0, b_ 1), (0, b_ 0), (1, t_ (sB (maskN K 1 N X)))] 9 [9] [3] (⟨rfl, ((cn_size _ _).trans hK.len), rfl, ((cn_size _ _).trans hN.len), (callP_of en_rMask (rMask_any K N X 1 ⟨hK.len, hK.lt⟩ (by decide) ⟨hN.len, hN.lt⟩ hX (by omega)) _), fun _ _ FF2 MM2 => then_n ?_⟩))
  refine wp_seq (rg_c FF2 MM2 [(1, b_ 1), (0, b_ 0), (2, t_ (sB (tagA K N E (maskN K 1 N X)))), (0, t_ (sB (sealN K N E X)))] 9 [] [2] (⟨rfl, ((cn_size _ _).trans hK.len), rfl, ((cn_size _ _).trans hN.len), (callP_of en_rtag (rtag_any K N ⟨hK.len, hK.lt⟩ ⟨hN.len, hN.lt⟩ E (maskN K 1 N X) hE (maskN_lt _ _ _ _ hX) (by omega) (by rw [maskN_len]; omega)) _), (by rw [bs_size, bs_size, maskN_len, tagA_len]; omega), (vS2 (bs_app _ _)), fun _ _ FF3 MM3 => then_n ?_⟩))
  refine wp_ret ?_
  repeat first | refine then_ret ?_ | refine inb_ret ?_
  exact (ret_fr FF3 0 Try.results39 rfl ⟨rfl, MM3.below⟩)
set_option maxRecDepth 100000 in
theorem ropen_short (K N : List Nat) (_hK : Bytes 32 K) (_hN : Bytes 12 N) (E Z : List Nat) (_hE : ∀ i, E.getD i 0 < 256) (_hZ : ∀ i, Z.getD i 0 < 256) (_hl : E.length < 1000000) (hl2 : Z.length ≤ 300) (h16 : Z.length < 16) (w0 : World) :
    Calls Try.prog 42 #[.agg (cn .u8 K), .agg (cn .u8 N), sB E, sB Z] w0 fun e w' => e = .returned (.tuple #[sB [], .bool false]) ∧ Below w0.heap.size w0 w' := by
  refine enter_fr Try.func42 rfl Try.ntmps42 (by simp) fun ac (FF : Fr 35 ac [(0, .agg (cn .u8 K)), (1, .agg (cn .u8 N)), (2, sB E), (3, sB Z)]) => ?_
  have MM := MemS.start w0
  refine wp_seq (rg_c FF MM [(0, s_ 0 (.cells (cn .u8 K) 41)), (0, s_ 0 (.cells (cn .u8 N) 44)), (0, t_ (sB []))] 9 [9] [0, 1] (⟨(by kernel_rfl), fun bk => ⟨(by kernel_rfl), fun bn => ⟨(by kernel_rfl), fun _ _ FF1 MM1 => then_n ?_⟩⟩⟩))
  refine wp_seq (rg_c FF1 MM1 [(1, t_ (iN Z.length)), (0, u_ 4 (.int .i64 (((Z.length : Nat) : Int) - 16 : Int)))] 11 [] [] (⟨(vI (bs_size _)), by omega, by omega, (vZ (by omega)), fun _ _ FF2 MM2 => then_n ?_⟩))
  refine wp_seq ?_
  refine wp_seq (rg_dc 15 FF2 MM2 [(1, w_ 6)] [] 11 [28] [2] (⟨by omega, fun _ _ FF3 MM3 => then_n ?_⟩))
  refine wp_cond_true (FF3.ev 0 rfl) ?_
  refine wp_seq (rg_c FF3 MM3 [(0, t_ (sB []))] 11 [] [] (⟨(by kernel_rfl), fun _ _ FF4 MM4 => then_n ?_⟩))
  refine wp_ret ?_
  repeat first | refine then_ret ?_ | refine inb_ret ?_
  exact (ret_tup2 FF4 1 0 Try.results42 rfl rfl ⟨rfl, MM4.below⟩)
set_option maxRecDepth 100000 in
theorem ropen_yes (K N : List Nat) (hK : Bytes 32 K) (hN : Bytes 12 N) (E Z : List Nat) (hE : ∀ i, E.getD i 0 < 256) (hZ : ∀ i, Z.getD i 0 < 256) (hl : E.length < 1000000) (hl2 : Z.length ≤ 300) (h16 : 16 ≤ Z.length) (ho : opensN K N E Z) (w0 : World) :
    Calls Try.prog 42 #[.agg (cn .u8 K), .agg (cn .u8 N), sB E, sB Z] w0 fun e w' => e = .returned (.tuple #[sB (plainN K N Z), .bool true]) ∧ Below w0.heap.size w0 w' := by
  refine enter_fr Try.func42 rfl Try.ntmps42 (by simp) fun ac (FF : Fr 35 ac [(0, .agg (cn .u8 K)), (1, .agg (cn .u8 N)), (2, sB E), (3, sB Z)]) => ?_
  have MM := MemS.start w0
  refine wp_seq (rg_c FF MM [(0, s_ 0 (.cells (cn .u8 K) 41)), (0, s_ 0 (.cells (cn .u8 N) 44)), (0, t_ (sB []))] 9 [9] [0, 1] (⟨(by kernel_rfl), fun bk => ⟨(by kernel_rfl), fun bn => ⟨(by kernel_rfl), fun _ _ FF1 MM1 => then_n ?_⟩⟩⟩))
  refine wp_seq (rg_c FF1 MM1 [(1, t_ (iN Z.length))] 11 [] [] (⟨(vI (bs_size _)), by omega, by omega, fun _ _ FF2 MM2 => then_n ?_⟩))
  refine wp_seq ?_
  refine wp_seq (rg_dc 15 FF2 MM2 [(1, w_ 3), (1, b_ 1), (0, b_ 0), (3, t_ (sB (Z.take (Z.length - 16)))), (0, t_ (sB (tagA K N E (Z.take (Z.length - 16))))), (2, t_ (sB (Z.drop (Z.length - 16)))), (0, w_ 3)] [] 11 [28] [2] (⟨by omega, rfl, ((cn_size _ _).trans hK.len), rfl, ((cn_size _ _).trans hN.len), (Nat.zero_le _), (by simp only [bs_size]; omega), (vS2 ((bs_extract _ _ _).trans (congrArg bs (List.drop_zero ..)))), (callP_of en_rtag (rtag_any K N ⟨hK.len, hK.lt⟩ ⟨hN.len, hN.lt⟩ E (Z.take (Z.length - 16)) hE (take_lt hZ) (by omega) (by rw [List.length_take]; omega)) _), (by simp only [bs_size]; omega), (Nat.zero_le _), (vS2 (bs_from _ _)), (fun h => h (congrArg bs ho.2.symm)), fun _ _ FF3 MM3 => then_n ?_⟩))
  refine wp_cond_false (FF3.ev 0 rfl) ?_
  refine wp_skip ?_
  refine then_n ?_
  refine wp_seq (rg_dc 8 FF3 MM3 [(0, b_ 1), (0, b_ 0), (2, t_ (sB (Z.take (Z.length - 16)))), (0, t_ (sB (maskN K 1 N (Z.take (Z.length - 16)))))] [] 11 [] [] (⟨rfl, ((cn_size _ _).trans hK.len), rfl, ((cn_size _ _).trans hN.len), (Nat.zero_le _), (by simp only [bs_size]; omega), (vS2 ((bs_extract _ _ _).trans (congrArg bs (List.drop_zero ..)))), (callP_of en_rMask (rMask_any K N (Z.take (Z.length - 16)) 1 ⟨hK.len, hK.lt⟩ (by decide) ⟨hN.len, hN.lt⟩ (take_lt hZ) (by rw [List.length_take]; omega)) _), fun _ _ FF4 MM4 => then_n ?_⟩))
  refine wp_ret ?_
  repeat first | refine then_ret ?_ | refine inb_ret ?_
  exact (ret_tup2 FF4 1 0 Try.results42 rfl rfl ⟨rfl, MM4.below⟩)
set_option maxRecDepth 100000 in
theorem ropen_bad (K N : List Nat) (hK : Bytes 32 K) (hN : Bytes 12 N) (E Z : List Nat) (hE : ∀ i, E.getD i 0 < 256) (hZ : ∀ i, Z.getD i 0 < 256) (hl : E.length < 1000000) (hl2 : Z.length ≤ 300) (h16 : 16 ≤ Z.length) (ho : ¬ opensN K N E Z) (w0 : World) :
    Calls Try.prog 42 #[.agg (cn .u8 K), .agg (cn .u8 N), sB E, sB Z] w0 fun e w' => e = .returned (.tuple #[sB [], .bool false]) ∧ Below w0.heap.size w0 w' := by
  refine enter_fr Try.func42 rfl Try.ntmps42 (by simp) fun ac (FF : Fr 35 ac [(0, .agg (cn .u8 K)), (1, .agg (cn .u8 N)), (2, sB E), (3, sB Z)]) => ?_
  have MM := MemS.start w0
  refine wp_seq (rg_c FF MM [(0, s_ 0 (.cells (cn .u8 K) 41)), (0, s_ 0 (.cells (cn .u8 N) 44)), (0, t_ (sB []))] 9 [9] [0, 1] (⟨(by kernel_rfl), fun bk => ⟨(by kernel_rfl), fun bn => ⟨(by kernel_rfl), fun _ _ FF1 MM1 => then_n ?_⟩⟩⟩))
  refine wp_seq (rg_c FF1 MM1 [(1, t_ (iN Z.length))] 11 [] [] (⟨(vI (bs_size _)), by omega, by omega, fun _ _ FF2 MM2 => then_n ?_⟩))
  refine wp_seq ?_
  refine wp_seq (rg_dc 15 FF2 MM2 [(1, w_ 3), (1, b_ 1), (0, b_ 0), (3, t_ (sB (Z.take (Z.length - 16)))), (0, t_ (sB (tagA K N E (Z.take (Z.length - 16))))), (2, t_ (sB (Z.drop (Z.length - 16)))), (0, w_ 2)] [] 11 [28] [2] (⟨by omega, rfl, ((cn_size _ _).trans hK.len), rfl, ((cn_size _ _).trans hN.len), (Nat.zero_le _), (by simp only [bs_size]; omega), (vS2 ((bs_extract _ _ _).trans (congrArg bs (List.drop_zero ..)))), (callP_of en_rtag (rtag_any K N ⟨hK.len, hK.lt⟩ ⟨hN.len, hN.lt⟩ E (Z.take (Z.length - 16)) hE (take_lt hZ) (by omega) (by rw [List.length_take]; omega)) _), (by simp only [bs_size]; omega), (Nat.zero_le _), (vS2 (bs_from _ _)), (fun h => ho ⟨h16, (bs_inj (tagA_lt _ _ _ _) (drop_lt hZ) h).symm⟩), fun _ _ FF3 MM3 => then_n ?_⟩))
  refine wp_cond_true (FF3.ev 0 rfl) ?_
  refine wp_seq (rg_c FF3 MM3 [(0, t_ (sB []))] 11 [] [] (⟨(by kernel_rfl), fun _ _ FF4 MM4 => then_n ?_⟩))
  refine wp_ret ?_
  repeat first | refine then_ret ?_ | refine inb_ret ?_
  exact (ret_tup2 FF4 1 0 Try.results42 rfl rfl ⟨rfl, MM4.below⟩)
theorem ropen_no (K N : List Nat) (hK : Bytes 32 K) (hN : Bytes 12 N) (E Z : List Nat) (hE : ∀ i, E.getD i 0 < 256) (hZ : ∀ i, Z.getD i 0 < 256) (hl : E.length < 1000000) (hl2 : Z.length ≤ 300) (ho : ¬ opensN K N E Z) (w0 : World) :
    Calls Try.prog 42 #[.agg (cn .u8 K), .agg (cn .u8 N), sB E, sB Z] w0 fun e w' => e = .returned (.tuple #[sB [], .bool false]) ∧ Below w0.heap.size w0 w' := by
  rcases Nat.lt_or_ge Z.length 16 with h | h
  · exact ropen_short K N hK hN E Z hE hZ hl hl2 h w0
  · exact ropen_bad K N hK hN E Z hE hZ hl hl2 h ho w0
end Go.Proofs.Ytniplfjnpjihoaa
namespace Go.Proofs.Ytniplfjnpjihoaa
open Go.RowKit
theorem en_bkey : Enters Try.prog 33 := fun args w => by simp [go_sem]
theorem en_bshared : Enters Try.prog 25 := fun args w => by simp [go_sem]
theorem en_bshare : Enters Try.prog 14 := fun args w => by simp [go_sem]
theorem en_bshareid : Enters Try.prog 17 := fun args w => by simp [go_sem]
theorem en_bKey : Enters Try.prog 27 := fun args w => by simp [go_sem]
theorem en_bID : Enters Try.prog 29 := fun args w => by simp [go_sem]
theorem en_bnoted : Enters Try.prog 41 := fun args w => by simp [go_sem]
theorem en_bseal : Enters Try.prog 19 := fun args w => by simp [go_sem]
theorem en_bopen : Enters Try.prog 22 := fun args w => by simp [go_sem]
/-- The document's book: the game, the tape, what is shared, what is noted, the forgeries. -/
abbrev QB (i : Bool) (t v1 v2 v3 : Value) (f : Nat) : Obj := .cells #[.bool i, t, v1, v2, v3, iN f] 37
set_option maxRecDepth 100000 in
theorem bkey_yes {O : Blks} {q : Nat} {i : Bool} {t v2 v3 : Value} {f : Nat} {p : Option Addr} {c : Nat} {ks : Pairs} {K : List Nat} {own : List Nat} (hg : mget K ks = some own) (hk : OkP 32 ks) (hl : ks.length ≤ 1000000) (hK : BytesK 32 K) (hR : RowO O p (ks.length * 64) (fun j => (keyC ks).getD j undef)) (w0 : World) (H : Has w0 ((q, oC #[.bool i, t, .slice p ks.length c, v2, v3, iN f] 37) :: O)) (hD : Distinct ((q, oC #[.bool i, t, .slice p ks.length c, v2, v3, iN f] 37) :: O)) :
    Calls Try.prog 33 #[pT q, .agg (cn .u8 K)] w0 fun e w' => e = .returned (iN (kix K ks)) ∧ Below w0.heap.size w0 w' := by
  refine enter_fr Try.func33 rfl Try.ntmps33 (by simp) fun ac (FF : Fr 26 ac [(0, pT q), (1, .agg (cn .u8 K))]) => ?_
  have MM : MemS (fun k => k < w0.heap.size ∧ ∀ x ∈ (q, oC #[.bool i, t, .slice p ks.length c, v2, v3, iN f] 37) :: O, x.1 ≠ k) w0 w0 ((q, oC #[.bool i, t, .slice p ks.length c, v2, v3, iN f] 37) :: O) [] := MemS.startN H hD
  obtain ⟨hx1, hx2⟩ := kix_lt hg
  obtain ⟨hx3, hx4⟩ := kix_fst hg
  refine wp_seq (rg_c FF MM [(0, s_ 0 (.cells (cn .u8 K) 41))] 5 [] [1] (⟨(by kernel_rfl), fun bk => fun _ _ FF1 MM1 => then_n ?_⟩))
  refine wp_seq ?_
  refine wp_seq (rg_c FF1 MM1 [] 6 [] [] (fun _ _ FF2 MM2 => then_n ?_))
  refine wp_for2 (fun a' w' => ∃ j : Nat, j ≤ kix K ks ∧ Fr 26 a' [(5, iN j), (3, pT bk), (0, pT q)] ∧ MemS (fun k => k < w0.heap.size ∧ ∀ x ∈ (q, oC #[.bool i, t, .slice p ks.length c, v2, v3, iN f] 37) :: O, x.1 ≠ k) w0 w' ((bk, .cells (cn .u8 K) 41) :: (q, oC #[.bool i, t, .slice p ks.length c, v2, v3, iN f] 37) :: O) []) (fun a' _ => (ks.length - cnt 5 a').toNat) ⟨0, Nat.zero_le _, FF2.pick [0, 2, 3], MM2⟩ ?_
  rintro ac3 wd3 ⟨j, hj, FF3, MM3⟩
  have hc := cnt_of (FF3.get 0 rfl)
  refine rg_c FF3 MM3 [(4, l_ 1 (.slice p ks.length c))] 6 [12] [] (⟨rfl, rfl, fun _ _ FF4 MM4 => ?_⟩)
  by_cases hlt : j < ks.length
  · skip
    refine then_n (.inl ⟨(FF4.ev 0 rfl).trans (dec_t hlt), ?_⟩)
    by_cases hE : j = kix K ks
    · skip
      refine wp_seq (rg_dc 10 FF4 MM4 [(3, l_ 1 (.slice p ks.length c)), (1, f_ (.pointer (some ⟨gOf p, oOf p + j * 64, none⟩))), (1, f_ (.agg (cn .u8 (fstAt ks j)))), (0, b_ 0), (0, f_ (.bool true))] [] 6 [24] [] (⟨rfl, rfl, (rowX_addr (x := (.tmp 18)) (y := (.tmp 19)) (k := 64) (i := j) (by kernel_rfl) rfl rfl Try.underlying33 (by kernel_rfl) hR (by omega) (by omega)), (rowX_loadA (x := (.tmp 21)) (j := j * 64) (k := 32) (vs := (cn .u8 (fstAt ks j)).toList) (by kernel_rfl) rfl Try.underlying41 rfl (by kernel_rfl) (by rw [Array.length_toList, cn_size]; exact (fst_ok hk hlt).1) hR (fun _ hx => List.mem_cons_of_mem _ (List.mem_cons_of_mem _ (hx))) (by omega) (by decide) (fst_cells hk hlt)), rfl, ((cn_size _ _).trans hK.1), (eqA_ok (t := 41) (t' := 41) (e := 5) (m := 32) (k := .u8) (x := (.tmp 22)) (y := (.tmp 23)) (by kernel_rfl) Try.underlying41 Try.underlying5 (by kernel_rfl) (by kernel_rfl) (by kernel_rfl) rfl rfl (fst_ok hk hlt).1 hK.1 (by rw [hE]; exact decide_eq_true hx3)), fun _ _ FF5 MM5 => then_n ?_⟩))
      refine wp_cond_true (FF5.ev 0 rfl) ?_
      refine wp_seq (rg_c FF5 MM5 [] 6 [] [] (fun _ _ FF6 MM6 => then_n ?_))
      refine wp_ret ?_
      repeat first | refine then_ret ?_ | refine inb_ret ?_
      exact (ret_fr FF6 0 Try.results33 rfl ⟨by rw [hE], MM6.belowN H (fun x hx => (List.mem_cons.1 hx).elim (fun e => by subst e; exact List.mem_cons_of_mem _ (List.mem_cons_self ..)) (fun hx => List.mem_cons_of_mem _ (List.mem_cons_of_mem _ (hx))))⟩)
    · skip
      refine wp_seq (rg_dc 10 FF4 MM4 [(3, l_ 1 (.slice p ks.length c)), (1, f_ (.pointer (some ⟨gOf p, oOf p + j * 64, none⟩))), (1, f_ (.agg (cn .u8 (fstAt ks j)))), (0, b_ 0), (0, f_ (.bool false))] [] 6 [24] [] (⟨rfl, rfl, (rowX_addr (x := (.tmp 18)) (y := (.tmp 19)) (k := 64) (i := j) (by kernel_rfl) rfl rfl Try.underlying33 (by kernel_rfl) hR (by omega) (by omega)), (rowX_loadA (x := (.tmp 21)) (j := j * 64) (k := 32) (vs := (cn .u8 (fstAt ks j)).toList) (by kernel_rfl) rfl Try.underlying41 rfl (by kernel_rfl) (by rw [Array.length_toList, cn_size]; exact (fst_ok hk hlt).1) hR (fun _ hx => List.mem_cons_of_mem _ (List.mem_cons_of_mem _ (hx))) (by omega) (by decide) (fst_cells hk hlt)), rfl, ((cn_size _ _).trans hK.1), (eqA_ok (t := 41) (t' := 41) (e := 5) (m := 32) (k := .u8) (x := (.tmp 22)) (y := (.tmp 23)) (by kernel_rfl) Try.underlying41 Try.underlying5 (by kernel_rfl) (by kernel_rfl) (by kernel_rfl) rfl rfl (fst_ok hk hlt).1 hK.1 (decide_eq_false (kix_ne hg (by omega)))), fun _ _ FF7 MM7 => then_n ?_⟩))
      refine wp_cond_false (FF7.ev 0 rfl) ?_
      refine wp_skip ?_
      refine inb_n (then_n ?_)
      refine rg_c FF7 MM7 [] 6 [] [] (⟨by omega, fun _ _ FF8 MM8 => ?_⟩)
      have hd := cnt_of (FF8.get 0 rfl)
      refine then_n ⟨⟨j + 1, by omega, FF8.pick [0, 1, 2], MM8⟩, ?_⟩
      rw [hc, hd]; omega
  · skip
    refine then_n (.inr ⟨(FF4.ev 0 rfl).trans (dec_f hlt), ?_⟩)
    refine then_n ?_
    refine wp_seq (rg_c FF4 MM4 [] 6 [] [] (fun _ _ FF9 _ => then_n ?_))
    refine wp_ret ?_
    repeat first | refine then_ret ?_ | refine inb_ret ?_
    exact (ret_fr FF9 0 Try.results33 rfl (by omega))
set_option maxRecDepth 100000 in
theorem bkey_no {O : Blks} {q : Nat} {i : Bool} {t v2 v3 : Value} {f : Nat} {p : Option Addr} {c : Nat} {ks : Pairs} {K : List Nat} (hg : mget K ks = none) (hk : OkP 32 ks) (hl : ks.length ≤ 1000000) (hK : BytesK 32 K) (hR : RowO O p (ks.length * 64) (fun j => (keyC ks).getD j undef)) (w0 : World) (H : Has w0 ((q, oC #[.bool i, t, .slice p ks.length c, v2, v3, iN f] 37) :: O)) (hD : Distinct ((q, oC #[.bool i, t, .slice p ks.length c, v2, v3, iN f] 37) :: O)) :
    Calls Try.prog 33 #[pT q, .agg (cn .u8 K)] w0 fun e w' => e = .returned (.int .i64 (-1 : Int)) ∧ Below w0.heap.size w0 w' := by
  refine enter_fr Try.func33 rfl Try.ntmps33 (by simp) fun ac (FF : Fr 26 ac [(0, pT q), (1, .agg (cn .u8 K))]) => ?_
  have MM : MemS (fun k => k < w0.heap.size ∧ ∀ x ∈ (q, oC #[.bool i, t, .slice p ks.length c, v2, v3, iN f] 37) :: O, x.1 ≠ k) w0 w0 ((q, oC #[.bool i, t, .slice p ks.length c, v2, v3, iN f] 37) :: O) [] := MemS.startN H hD
  refine wp_seq (rg_c FF MM [(0, s_ 0 (.cells (cn .u8 K) 41))] 5 [] [1] (⟨(by kernel_rfl), fun bk => fun _ _ FF1 MM1 => then_n ?_⟩))
  refine wp_seq ?_
  refine wp_seq (rg_c FF1 MM1 [] 6 [] [] (fun _ _ FF2 MM2 => then_n ?_))
  refine wp_for2 (fun a' w' => ∃ j : Nat, j ≤ ks.length ∧ Fr 26 a' [(5, iN j), (3, pT bk), (0, pT q)] ∧ MemS (fun k => k < w0.heap.size ∧ ∀ x ∈ (q, oC #[.bool i, t, .slice p ks.length c, v2, v3, iN f] 37) :: O, x.1 ≠ k) w0 w' ((bk, .cells (cn .u8 K) 41) :: (q, oC #[.bool i, t, .slice p ks.length c, v2, v3, iN f] 37) :: O) []) (fun a' _ => (ks.length - cnt 5 a').toNat) ⟨0, Nat.zero_le _, FF2.pick [0, 2, 3], MM2⟩ ?_
  rintro ac3 wd3 ⟨j, hj, FF3, MM3⟩
  have hc := cnt_of (FF3.get 0 rfl)
  refine rg_c FF3 MM3 [(4, l_ 1 (.slice p ks.length c))] 6 [12] [] (⟨rfl, rfl, fun _ _ FF4 MM4 => ?_⟩)
  by_cases hlt : j < ks.length
  · skip
    refine then_n (.inl ⟨(FF4.ev 0 rfl).trans (dec_t hlt), ?_⟩)
    refine wp_seq (rg_dc 10 FF4 MM4 [(3, l_ 1 (.slice p ks.length c)), (1, f_ (.pointer (some ⟨gOf p, oOf p + j * 64, none⟩))), (1, f_ (.agg (cn .u8 (fstAt ks j)))), (0, b_ 0), (0, f_ (.bool false))] [] 6 [24] [] (⟨rfl, rfl, (rowX_addr (x := (.tmp 18)) (y := (.tmp 19)) (k := 64) (i := j) (by kernel_rfl) rfl rfl Try.underlying33 (by kernel_rfl) hR (by omega) (by omega)), (rowX_loadA (x := (.tmp 21)) (j := j * 64) (k := 32) (vs := (cn .u8 (fstAt ks j)).toList) (by kernel_rfl) rfl Try.underlying41 rfl (by kernel_rfl) (by rw [Array.length_toList, cn_size]; exact (fst_ok hk hlt).1) hR (fun _ hx => List.mem_cons_of_mem _ (List.mem_cons_of_mem _ (hx))) (by omega) (by decide) (fst_cells hk hlt)), rfl, ((cn_size _ _).trans hK.1), (eqA_ok (t := 41) (t' := 41) (e := 5) (m := 32) (k := .u8) (x := (.tmp 22)) (y := (.tmp 23)) (by kernel_rfl) Try.underlying41 Try.underlying5 (by kernel_rfl) (by kernel_rfl) (by kernel_rfl) rfl rfl (fst_ok hk hlt).1 hK.1 (decide_eq_false (none_ne hg hlt))), fun _ _ FF5 MM5 => then_n ?_⟩))
    refine wp_cond_false (FF5.ev 0 rfl) ?_
    refine wp_skip ?_
    refine inb_n (then_n ?_)
    refine rg_c FF5 MM5 [] 6 [] [] (⟨by omega, fun _ _ FF6 MM6 => ?_⟩)
    have hd := cnt_of (FF6.get 0 rfl)
    refine then_n ⟨⟨j + 1, by omega, FF6.pick [0, 1, 2], MM6⟩, ?_⟩
    rw [hc, hd]; omega
  · skip
    refine then_n (.inr ⟨(FF4.ev 0 rfl).trans (dec_f hlt), ?_⟩)
    refine then_n ?_
    refine wp_seq (rg_c FF4 MM4 [] 6 [] [] (fun _ _ FF7 MM7 => then_n ?_))
    refine wp_ret ?_
    repeat first | refine then_ret ?_ | refine inb_ret ?_
    exact (ret_fr FF7 0 Try.results33 rfl ⟨rfl, MM7.belowN H (fun x hx => (List.mem_cons.1 hx).elim (fun e => by subst e; exact List.mem_cons_of_mem _ (List.mem_cons_self ..)) (fun hx => List.mem_cons_of_mem _ (List.mem_cons_of_mem _ (hx))))⟩)
set_option maxRecDepth 100000 in
theorem bshared_any {O : Blks} {q : Nat} {i : Bool} {t v2 v3 : Value} {f : Nat} {p : Option Addr} {c : Nat} {ks : Pairs} {K : List Nat} (hk : OkP 32 ks) (hl : ks.length ≤ 1000000) (hK : BytesK 32 K) (hR : RowO O p (ks.length * 64) (fun j => (keyC ks).getD j undef)) (w0 : World) (H : Has w0 ((q, oC #[.bool i, t, .slice p ks.length c, v2, v3, iN f] 37) :: O)) (hD : Distinct ((q, oC #[.bool i, t, .slice p ks.length c, v2, v3, iN f] 37) :: O)) :
    Calls Try.prog 25 #[pT q, .agg (cn .u8 K)] w0 fun e w' => e = .returned (.bool (mget K ks).isSome) ∧ Below w0.heap.size w0 w' := by
  refine enter_fr Try.func25 rfl Try.ntmps25 (by simp) fun ac (FF : Fr 9 ac [(0, pT q), (1, .agg (cn .u8 K))]) => ?_
  have MM : MemS (fun k => k < w0.heap.size ∧ ∀ x ∈ (q, oC #[.bool i, t, .slice p ks.length c, v2, v3, iN f] 37) :: O, x.1 ≠ k) w0 w0 ((q, oC #[.bool i, t, .slice p ks.length c, v2, v3, iN f] 37) :: O) [] := MemS.startN H hD
  refine wp_seq (rg_c FF MM [(0, s_ 0 (.cells (cn .u8 K) 41))] 5 [] [1] (⟨(by kernel_rfl), fun bk => fun _ _ FF1 MM1 => then_n ?_⟩))
  cases hg : mget K ks with
  | none =>
    refine wp_seq (rg_c FF1 MM1 [(1, b_ 0), (0, u_ 1 (.int .i64 (-1 : Int))), (0, u_ 4 (.bool false))] 0 [4] [] (⟨rfl, ((cn_size _ _).trans hK.1), ⟨en_bkey, fun w Hw => bkey_no hg hk hl hK hR w (has_cons (Hw 1 _ rfl) (Has.tl (Has.tl Hw))) (MM1.dropAt 0).distinct⟩, (dec_f (by decide)), fun _ _ FF2 MM2 => then_n ?_⟩))
    refine wp_ret ?_
    repeat first | refine then_ret ?_ | refine inb_ret ?_
    exact (ret_fr FF2 0 Try.results25 rfl ⟨rfl, MM2.belowN H (fun x hx => (List.mem_cons.1 hx).elim (fun e => by subst e; exact List.mem_cons_of_mem _ (List.mem_cons_self ..)) (fun hx => List.mem_cons_of_mem _ (List.mem_cons_of_mem _ (hx))))⟩)
  | some own =>
    refine wp_seq (rg_c FF1 MM1 [(1, b_ 0), (0, u_ 1 (iN (kix K ks))), (0, w_ 2)] 0 [4] [] (⟨rfl, ((cn_size _ _).trans hK.1), ⟨en_bkey, fun w Hw => bkey_yes hg hk hl hK hR w (has_cons (Hw 1 _ rfl) (Has.tl (Has.tl Hw))) (MM1.dropAt 0).distinct⟩, (Nat.zero_le _), fun _ _ FF3 MM3 => then_n ?_⟩))
    refine wp_ret ?_
    repeat first | refine then_ret ?_ | refine inb_ret ?_
    exact (ret_fr FF3 0 Try.results25 rfl ⟨rfl, MM3.belowN H (fun x hx => (List.mem_cons.1 hx).elim (fun e => by subst e; exact List.mem_cons_of_mem _ (List.mem_cons_self ..)) (fun hx => List.mem_cons_of_mem _ (List.mem_cons_of_mem _ (hx))))⟩)
set_option maxRecDepth 100000 in
theorem bKey_any {O : Blks} {q : Nat} {i : Bool} {t v2 v3 : Value} {f : Nat} {p : Option Addr} {c : Nat} {ks : Pairs} {K : List Nat} (hk : OkP 32 ks) (hl : ks.length ≤ 1000000) (hK : BytesK 32 K) (hR : RowO O p (ks.length * 64) (fun j => (keyC ks).getD j undef)) (w0 : World) (H : Has w0 ((q, oC #[.bool i, t, .slice p ks.length c, v2, v3, iN f] 37) :: O)) (hD : Distinct ((q, oC #[.bool i, t, .slice p ks.length c, v2, v3, iN f] 37) :: O)) :
    Calls Try.prog 27 #[pT q, .agg (cn .u8 K)] w0 fun e w' => e = .returned (.agg (cn .u8 (ownN K ks))) ∧ Below w0.heap.size w0 w' := by
  refine enter_fr Try.func27 rfl Try.ntmps27 (by simp) fun ac (FF : Fr 20 ac [(0, pT q), (1, .agg (cn .u8 K))]) => ?_
  have MM : MemS (fun k => k < w0.heap.size ∧ ∀ x ∈ (q, oC #[.bool i, t, .slice p ks.length c, v2, v3, iN f] 37) :: O, x.1 ≠ k) w0 w0 ((q, oC #[.bool i, t, .slice p ks.length c, v2, v3, iN f] 37) :: O) [] := MemS.startN H hD
  refine wp_seq (rg_c FF MM [(0, s_ 0 (.cells (cn .u8 K) 41)), (0, s_ 0 (.cells (cn .u8 (List.replicate 32 0)) 41))] 5 [] [1] (⟨(by kernel_rfl), fun bk => ⟨(by kernel_rfl), fun br => fun _ _ FF1 MM1 => then_n ?_⟩⟩))
  cases hg : mget K ks with
  | none =>
    refine wp_seq (rg_c FF1 MM1 [(1, b_ 1), (0, u_ 1 (.int .i64 (-1 : Int)))] 6 [] [] (⟨rfl, ((cn_size _ _).trans hK.1), ⟨en_bkey, fun w Hw => bkey_no hg hk hl hK hR w (has_cons (Hw 2 _ rfl) (Has.tl (Has.tl (Has.tl Hw)))) ((MM1.dropAt 1).dropAt 0).distinct⟩, fun _ _ FF2 MM2 => then_n ?_⟩))
    refine wp_seq ?_
    refine wp_seq (rg_c FF2 MM2 [(1, w_ 6)] 6 [10] [] (⟨by decide, fun _ _ FF3 MM3 => then_n ?_⟩))
    refine wp_cond_true (FF3.ev 0 rfl) ?_
    refine wp_seq (rg_c FF3 MM3 [(0, b_ 1), (0, b_ 0)] 6 [] [] (⟨rfl, ((cn_size _ _).trans hK.1), rfl, ((cn_size _ _).trans (List.length_replicate ..)), ((cn_size _ _).trans hK.1), (cn_one _ _), rfl, fun _ _ FF4 MM4 => then_n ?_⟩))
    refine wp_ret ?_
    repeat first | refine then_ret ?_ | refine inb_ret ?_
    exact (retc FF4 MM4 (k := 32) (i := 0) (j := 1) Try.results27 rfl rfl Try.underlying41 rfl (by kernel_rfl) ((cn_size _ _).trans hK.1) ⟨by rw [ownN, hg]; rfl, MM4.belowN H (fun x hx => (List.mem_cons.1 hx).elim (fun e => by subst e; exact List.mem_cons_of_mem _ (List.mem_cons_of_mem _ (List.mem_cons_self ..))) (fun hx => List.mem_cons_of_mem _ (List.mem_cons_of_mem _ (List.mem_cons_of_mem _ (hx)))))⟩)
  | some own =>
    refine wp_seq (rg_c FF1 MM1 [(1, b_ 1), (0, u_ 1 (iN (kix K ks)))] 6 [] [] (⟨rfl, ((cn_size _ _).trans hK.1), ⟨en_bkey, fun w Hw => bkey_yes hg hk hl hK hR w (has_cons (Hw 2 _ rfl) (Has.tl (Has.tl (Has.tl Hw)))) ((MM1.dropAt 1).dropAt 0).distinct⟩, fun _ _ FF5 MM5 => then_n ?_⟩))
    refine wp_seq ?_
    refine wp_seq (rg_c FF5 MM5 [(1, w_ 3)] 6 [10] [] (⟨(Nat.not_lt_zero _), fun _ _ FF6 MM6 => then_n ?_⟩))
    refine wp_cond_false (FF6.ev 0 rfl) ?_
    refine wp_skip ?_
    refine then_n ?_
    obtain ⟨hx1, hx2⟩ := kix_lt hg
    obtain ⟨hx3, hx4⟩ := kix_fst hg
    refine wp_seq (rg_c FF6 MM6 [(3, l_ 2 (.slice p ks.length c)), (1, f_ (.pointer (some ⟨gOf p, oOf p + (kix K ks) * 64, none⟩))), (1, f_ (.agg (cn .u8 own))), (0, b_ 0)] 6 [] [] (⟨rfl, rfl, (rowX_addr (x := (.tmp 15)) (y := (.tmp 16)) (k := 64) (i := kix K ks) (by kernel_rfl) rfl rfl Try.underlying33 (by kernel_rfl) hR (by omega) hx1), (rowX_loadA (x := (.tmp 18)) (j := (kix K ks) * 64 + 32) (k := 32) (vs := (cn .u8 own).toList) (by kernel_rfl) rfl Try.underlying41 rfl (by kernel_rfl) (by rw [Array.length_toList, cn_size]; exact (hx4 ▸ snd_ok hk hx1 : BytesK 32 own).1) hR (fun _ hx => List.mem_cons_of_mem _ (List.mem_cons_of_mem _ (List.mem_cons_of_mem _ (hx)))) (by omega) (by decide) (by have h0 := snd_cells hk hx1; rw [hx4] at h0; exact h0)), rfl, ((cn_size _ _).trans (List.length_replicate ..)), ((cn_size _ _).trans (hx4 ▸ snd_ok hk hx1 : BytesK 32 own).1), (cn_one _ _), rfl, fun _ _ FF7 MM7 => then_n ?_⟩))
    refine wp_ret ?_
    repeat first | refine then_ret ?_ | refine inb_ret ?_
    exact (retc FF7 MM7 (k := 32) (i := 0) (j := 1) Try.results27 rfl rfl Try.underlying41 rfl (by kernel_rfl) ((cn_size _ _).trans (hx4 ▸ snd_ok hk hx1 : BytesK 32 own).1) ⟨by rw [ownN, hg]; rfl, MM7.belowN H (fun x hx => (List.mem_cons.1 hx).elim (fun e => by subst e; exact List.mem_cons_of_mem _ (List.mem_cons_of_mem _ (List.mem_cons_self ..))) (fun hx => List.mem_cons_of_mem _ (List.mem_cons_of_mem _ (List.mem_cons_of_mem _ (hx)))))⟩)
end Go.Proofs.Ytniplfjnpjihoaa
namespace Go.Proofs.Ytniplfjnpjihoaa
open Go.RowKit
set_option maxRecDepth 100000 in
theorem bID_yes {O : Blks} {q : Nat} {i : Bool} {t v1 v3 : Value} {f : Nat} {p : Option Addr} {c : Nat} {ks : Pairs} {K : List Nat} {own : List Nat} (hg : mget K ks = some own) (hk : OkP 16 ks) (hl : ks.length ≤ 1000000) (hK : BytesK 16 K) (hR : RowO O p (ks.length * 32) (fun j => (keyC ks).getD j undef)) (w0 : World) (H : Has w0 ((q, oC #[.bool i, t, v1, .slice p ks.length c, v3, iN f] 37) :: O)) (hD : Distinct ((q, oC #[.bool i, t, v1, .slice p ks.length c, v3, iN f] 37) :: O)) :
    Calls Try.prog 29 #[pT q, .agg (cn .u8 K)] w0 fun e w' => e = .returned (.agg (cn .u8 (ownN K ks))) ∧ Below w0.heap.size w0 w' := by
  refine enter_fr Try.func29 rfl Try.ntmps29 (by simp) fun ac (FF : Fr 34 ac [(0, pT q), (1, .agg (cn .u8 K))]) => ?_
  have MM : MemS (fun k => k < w0.heap.size ∧ ∀ x ∈ (q, oC #[.bool i, t, v1, .slice p ks.length c, v3, iN f] 37) :: O, x.1 ≠ k) w0 w0 ((q, oC #[.bool i, t, v1, .slice p ks.length c, v3, iN f] 37) :: O) [] := MemS.startN H hD
  obtain ⟨hx1, hx2⟩ := kix_lt hg
  obtain ⟨hx3, hx4⟩ := kix_fst hg
  refine wp_seq (rg_c FF MM [(0, s_ 0 (.cells (cn .u8 K) 50)), (0, s_ 0 (.cells (cn .u8 (List.replicate 16 0)) 50))] 5 [] [1] (⟨(by kernel_rfl), fun bk => ⟨(by kernel_rfl), fun br => fun _ _ FF1 MM1 => then_n ?_⟩⟩))
  refine wp_seq ?_
  refine wp_seq (rg_c FF1 MM1 [] 6 [] [] (fun _ _ FF2 MM2 => then_n ?_))
  refine wp_for2 (fun a' w' => ∃ j : Nat, j ≤ kix K ks ∧ Fr 34 a' [(5, iN j), (4, pT br), (3, pT bk), (0, pT q)] ∧ MemS (fun k => k < w0.heap.size ∧ ∀ x ∈ (q, oC #[.bool i, t, v1, .slice p ks.length c, v3, iN f] 37) :: O, x.1 ≠ k) w0 w' ((br, .cells (cn .u8 (List.replicate 16 0)) 50) :: (bk, .cells (cn .u8 K) 50) :: (q, oC #[.bool i, t, v1, .slice p ks.length c, v3, iN f] 37) :: O) []) (fun a' _ => (ks.length - cnt 5 a').toNat) ⟨0, Nat.zero_le _, FF2.pick [0, 1, 2, 3], MM2⟩ ?_
  rintro ac3 wd3 ⟨j, hj, FF3, MM3⟩
  have hc := cnt_of (FF3.get 0 rfl)
  refine rg_c FF3 MM3 [(4, l_ 2 (.slice p ks.length c))] 6 [12] [] (⟨rfl, rfl, fun _ _ FF4 MM4 => ?_⟩)
  by_cases hlt : j < ks.length
  · skip
    refine then_n (.inl ⟨(FF4.ev 0 rfl).trans (dec_t hlt), ?_⟩)
    by_cases hE : j = kix K ks
    · skip
      refine wp_seq (rg_dc 10 FF4 MM4 [(3, l_ 2 (.slice p ks.length c)), (1, f_ (.pointer (some ⟨gOf p, oOf p + j * 32, none⟩))), (1, f_ (.agg (cn .u8 (fstAt ks j)))), (0, b_ 1), (0, f_ (.bool true))] [] 6 [24] [] (⟨rfl, rfl, (rowX_addr (x := (.tmp 18)) (y := (.tmp 19)) (k := 32) (i := j) (by kernel_rfl) rfl rfl Try.underlying34 (by kernel_rfl) hR (by omega) (by omega)), (rowX_loadA (x := (.tmp 21)) (j := j * 32) (k := 16) (vs := (cn .u8 (fstAt ks j)).toList) (by kernel_rfl) rfl Try.underlying50 rfl (by kernel_rfl) (by rw [Array.length_toList, cn_size]; exact (fst_ok hk hlt).1) hR (fun _ hx => List.mem_cons_of_mem _ (List.mem_cons_of_mem _ (List.mem_cons_of_mem _ (hx)))) (by omega) (by decide) (fst_cells hk hlt)), rfl, ((cn_size _ _).trans hK.1), (eqA_ok (t := 50) (t' := 50) (e := 5) (m := 16) (k := .u8) (x := (.tmp 22)) (y := (.tmp 23)) (by kernel_rfl) Try.underlying50 Try.underlying5 (by kernel_rfl) (by kernel_rfl) (by kernel_rfl) rfl rfl (fst_ok hk hlt).1 hK.1 (by rw [hE]; exact decide_eq_true hx3)), fun _ _ FF5 MM5 => then_n ?_⟩))
      refine wp_cond_true (FF5.ev 0 rfl) ?_
      refine wp_seq (rg_c FF5 MM5 [(3, l_ 2 (.slice p ks.length c)), (1, f_ (.pointer (some ⟨gOf p, oOf p + j * 32, none⟩))), (1, f_ (.agg (cn .u8 own))), (0, b_ 0)] 6 [] [] (⟨rfl, rfl, (rowX_addr (x := (.tmp 28)) (y := (.tmp 29)) (k := 32) (i := j) (by kernel_rfl) rfl rfl Try.underlying34 (by kernel_rfl) hR (by omega) (by omega)), (rowX_loadA (x := (.tmp 31)) (j := j * 32 + 16) (k := 16) (vs := (cn .u8 own).toList) (by kernel_rfl) rfl Try.underlying50 rfl (by kernel_rfl) (by rw [Array.length_toList, cn_size]; exact (hx4 ▸ snd_ok hk hx1 : BytesK 16 own).1) hR (fun _ hx => List.mem_cons_of_mem _ (List.mem_cons_of_mem _ (List.mem_cons_of_mem _ (hx)))) (by omega) (by decide) (by have h0 := snd_cells hk hx1; rw [hx4, ← hE] at h0; exact h0)), rfl, ((cn_size _ _).trans (List.length_replicate ..)), ((cn_size _ _).trans (hx4 ▸ snd_ok hk hx1 : BytesK 16 own).1), (cn_one _ _), rfl, fun _ _ FF6 MM6 => then_n ?_⟩))
      refine wp_ret ?_
      repeat first | refine then_ret ?_ | refine inb_ret ?_
      exact (retc FF6 MM6 (k := 16) (i := 0) (j := 1) Try.results29 rfl rfl Try.underlying50 rfl (by kernel_rfl) ((cn_size _ _).trans (hx4 ▸ snd_ok hk hx1 : BytesK 16 own).1) ⟨by rw [ownN, hg]; rfl, MM6.belowN H (fun x hx => (List.mem_cons.1 hx).elim (fun e => by subst e; exact List.mem_cons_of_mem _ (List.mem_cons_of_mem _ (List.mem_cons_self ..))) (fun hx => List.mem_cons_of_mem _ (List.mem_cons_of_mem _ (List.mem_cons_of_mem _ (hx)))))⟩)
    · skip
      refine wp_seq (rg_dc 10 FF4 MM4 [(3, l_ 2 (.slice p ks.length c)), (1, f_ (.pointer (some ⟨gOf p, oOf p + j * 32, none⟩))), (1, f_ (.agg (cn .u8 (fstAt ks j)))), (0, b_ 1), (0, f_ (.bool false))] [] 6 [24] [] (⟨rfl, rfl, (rowX_addr (x := (.tmp 18)) (y := (.tmp 19)) (k := 32) (i := j) (by kernel_rfl) rfl rfl Try.underlying34 (by kernel_rfl) hR (by omega) (by omega)), (rowX_loadA (x := (.tmp 21)) (j := j * 32) (k := 16) (vs := (cn .u8 (fstAt ks j)).toList) (by kernel_rfl) rfl Try.underlying50 rfl (by kernel_rfl) (by rw [Array.length_toList, cn_size]; exact (fst_ok hk hlt).1) hR (fun _ hx => List.mem_cons_of_mem _ (List.mem_cons_of_mem _ (List.mem_cons_of_mem _ (hx)))) (by omega) (by decide) (fst_cells hk hlt)), rfl, ((cn_size _ _).trans hK.1), (eqA_ok (t := 50) (t' := 50) (e := 5) (m := 16) (k := .u8) (x := (.tmp 22)) (y := (.tmp 23)) (by kernel_rfl) Try.underlying50 Try.underlying5 (by kernel_rfl) (by kernel_rfl) (by kernel_rfl) rfl rfl (fst_ok hk hlt).1 hK.1 (decide_eq_false (kix_ne hg (by omega)))), fun _ _ FF7 MM7 => then_n ?_⟩))
      refine wp_cond_false (FF7.ev 0 rfl) ?_
      refine wp_skip ?_
      refine inb_n (then_n ?_)
      refine rg_c FF7 MM7 [] 6 [] [] (⟨by omega, fun _ _ FF8 MM8 => ?_⟩)
      have hd := cnt_of (FF8.get 0 rfl)
      refine then_n ⟨⟨j + 1, by omega, FF8.pick [0, 1, 2, 3], MM8⟩, ?_⟩
      rw [hc, hd]; omega
  · skip
    refine then_n (.inr ⟨(FF4.ev 0 rfl).trans (dec_f hlt), ?_⟩)
    refine then_n ?_
    refine wp_seq (rg_c FF4 MM4 [(0, b_ 1), (0, b_ 0)] 6 [] [] (⟨rfl, ((cn_size _ _).trans hK.1), rfl, ((cn_size _ _).trans (List.length_replicate ..)), ((cn_size _ _).trans hK.1), (cn_one _ _), rfl, fun _ _ FF9 MM9 => then_n ?_⟩))
    refine wp_ret ?_
    repeat first | refine then_ret ?_ | refine inb_ret ?_
    exact (retc FF9 MM9 (k := 16) (i := 0) (j := 1) Try.results29 rfl rfl Try.underlying50 rfl (by kernel_rfl) ((cn_size _ _).trans hK.1) (by omega))
set_option maxRecDepth 100000 in
theorem bID_no {O : Blks} {q : Nat} {i : Bool} {t v1 v3 : Value} {f : Nat} {p : Option Addr} {c : Nat} {ks : Pairs} {K : List Nat} (hg : mget K ks = none) (hk : OkP 16 ks) (hl : ks.length ≤ 1000000) (hK : BytesK 16 K) (hR : RowO O p (ks.length * 32) (fun j => (keyC ks).getD j undef)) (w0 : World) (H : Has w0 ((q, oC #[.bool i, t, v1, .slice p ks.length c, v3, iN f] 37) :: O)) (hD : Distinct ((q, oC #[.bool i, t, v1, .slice p ks.length c, v3, iN f] 37) :: O)) :
    Calls Try.prog 29 #[pT q, .agg (cn .u8 K)] w0 fun e w' => e = .returned (.agg (cn .u8 (ownN K ks))) ∧ Below w0.heap.size w0 w' := by
  refine enter_fr Try.func29 rfl Try.ntmps29 (by simp) fun ac (FF : Fr 34 ac [(0, pT q), (1, .agg (cn .u8 K))]) => ?_
  have MM : MemS (fun k => k < w0.heap.size ∧ ∀ x ∈ (q, oC #[.bool i, t, v1, .slice p ks.length c, v3, iN f] 37) :: O, x.1 ≠ k) w0 w0 ((q, oC #[.bool i, t, v1, .slice p ks.length c, v3, iN f] 37) :: O) [] := MemS.startN H hD
  refine wp_seq (rg_c FF MM [(0, s_ 0 (.cells (cn .u8 K) 50)), (0, s_ 0 (.cells (cn .u8 (List.replicate 16 0)) 50))] 5 [] [1] (⟨(by kernel_rfl), fun bk => ⟨(by kernel_rfl), fun br => fun _ _ FF1 MM1 => then_n ?_⟩⟩))
  refine wp_seq ?_
  refine wp_seq (rg_c FF1 MM1 [] 6 [] [] (fun _ _ FF2 MM2 => then_n ?_))
  refine wp_for2 (fun a' w' => ∃ j : Nat, j ≤ ks.length ∧ Fr 34 a' [(5, iN j), (4, pT br), (3, pT bk), (0, pT q)] ∧ MemS (fun k => k < w0.heap.size ∧ ∀ x ∈ (q, oC #[.bool i, t, v1, .slice p ks.length c, v3, iN f] 37) :: O, x.1 ≠ k) w0 w' ((br, .cells (cn .u8 (List.replicate 16 0)) 50) :: (bk, .cells (cn .u8 K) 50) :: (q, oC #[.bool i, t, v1, .slice p ks.length c, v3, iN f] 37) :: O) []) (fun a' _ => (ks.length - cnt 5 a').toNat) ⟨0, Nat.zero_le _, FF2.pick [0, 1, 2, 3], MM2⟩ ?_
  rintro ac3 wd3 ⟨j, hj, FF3, MM3⟩
  have hc := cnt_of (FF3.get 0 rfl)
  refine rg_c FF3 MM3 [(4, l_ 2 (.slice p ks.length c))] 6 [12] [] (⟨rfl, rfl, fun _ _ FF4 MM4 => ?_⟩)
  by_cases hlt : j < ks.length
  · skip
    refine then_n (.inl ⟨(FF4.ev 0 rfl).trans (dec_t hlt), ?_⟩)
    refine wp_seq (rg_dc 10 FF4 MM4 [(3, l_ 2 (.slice p ks.length c)), (1, f_ (.pointer (some ⟨gOf p, oOf p + j * 32, none⟩))), (1, f_ (.agg (cn .u8 (fstAt ks j)))), (0, b_ 1), (0, f_ (.bool false))] [] 6 [24] [] (⟨rfl, rfl, (rowX_addr (x := (.tmp 18)) (y := (.tmp 19)) (k := 32) (i := j) (by kernel_rfl) rfl rfl Try.underlying34 (by kernel_rfl) hR (by omega) (by omega)), (rowX_loadA (x := (.tmp 21)) (j := j * 32) (k := 16) (vs := (cn .u8 (fstAt ks j)).toList) (by kernel_rfl) rfl Try.underlying50 rfl (by kernel_rfl) (by rw [Array.length_toList, cn_size]; exact (fst_ok hk hlt).1) hR (fun _ hx => List.mem_cons_of_mem _ (List.mem_cons_of_mem _ (List.mem_cons_of_mem _ (hx)))) (by omega) (by decide) (fst_cells hk hlt)), rfl, ((cn_size _ _).trans hK.1), (eqA_ok (t := 50) (t' := 50) (e := 5) (m := 16) (k := .u8) (x := (.tmp 22)) (y := (.tmp 23)) (by kernel_rfl) Try.underlying50 Try.underlying5 (by kernel_rfl) (by kernel_rfl) (by kernel_rfl) rfl rfl (fst_ok hk hlt).1 hK.1 (decide_eq_false (none_ne hg hlt))), fun _ _ FF5 MM5 => then_n ?_⟩))
    refine wp_cond_false (FF5.ev 0 rfl) ?_
    refine wp_skip ?_
    refine inb_n (then_n ?_)
    refine rg_c FF5 MM5 [] 6 [] [] (⟨by omega, fun _ _ FF6 MM6 => ?_⟩)
    have hd := cnt_of (FF6.get 0 rfl)
    refine then_n ⟨⟨j + 1, by omega, FF6.pick [0, 1, 2, 3], MM6⟩, ?_⟩
    rw [hc, hd]; omega
  · skip
    refine then_n (.inr ⟨(FF4.ev 0 rfl).trans (dec_f hlt), ?_⟩)
    refine then_n ?_
    refine wp_seq (rg_c FF4 MM4 [(0, b_ 1), (0, b_ 0)] 6 [] [] (⟨rfl, ((cn_size _ _).trans hK.1), rfl, ((cn_size _ _).trans (List.length_replicate ..)), ((cn_size _ _).trans hK.1), (cn_one _ _), rfl, fun _ _ FF7 MM7 => then_n ?_⟩))
    refine wp_ret ?_
    repeat first | refine then_ret ?_ | refine inb_ret ?_
    exact (retc FF7 MM7 (k := 16) (i := 0) (j := 1) Try.results29 rfl rfl Try.underlying50 rfl (by kernel_rfl) ((cn_size _ _).trans hK.1) ⟨by rw [ownN, hg]; rfl, MM7.belowN H (fun x hx => (List.mem_cons.1 hx).elim (fun e => by subst e; exact List.mem_cons_of_mem _ (List.mem_cons_of_mem _ (List.mem_cons_self ..))) (fun hx => List.mem_cons_of_mem _ (List.mem_cons_of_mem _ (List.mem_cons_of_mem _ (hx)))))⟩)
set_option maxHeartbeats 1000000 in
set_option maxRecDepth 100000 in
theorem bnoted_yes {O : Blks} {q : Nat} {i : Bool} {t v1 v2 : Value} {f : Nat} {p : Option Addr} {c : Nat} {K N B : List Nat} {dn : Notes} {v : List Nat} (hg : rget (K, N, B) dn = some v) (hk : OkN dn) (hl : dn.length ≤ 1000000) (hK : BytesK 32 K) (hN : BytesK 12 N) (hB : ∀ i, B.getD i 0 < 256) (hR : RowO O p (dn.length * 46) (fun j => (notC dn).getD j undef)) (w0 : World) (H : Has w0 ((q, oC #[.bool i, t, v1, v2, .slice p dn.length c, iN f] 37) :: O)) (hD : Distinct ((q, oC #[.bool i, t, v1, v2, .slice p dn.length c, iN f] 37) :: O)) :
    Calls Try.prog 41 #[pT q, .agg (cn .u8 K), .agg (cn .u8 N), sB B] w0 fun e w' => e = .returned (iN (rix (K, N, B) dn)) ∧ Below w0.heap.size w0 w' := by
  refine enter_fr Try.func41 rfl Try.ntmps41 (by simp) fun ac (FF : Fr 55 ac [(0, pT q), (1, .agg (cn .u8 K)), (2, .agg (cn .u8 N)), (3, sB B)]) => ?_
  have MM : MemS (fun k => k < w0.heap.size ∧ ∀ x ∈ (q, oC #[.bool i, t, v1, v2, .slice p dn.length c, iN f] 37) :: O, x.1 ≠ k) w0 w0 ((q, oC #[.bool i, t, v1, v2, .slice p dn.length c, iN f] 37) :: O) [] := MemS.startN H hD
  obtain ⟨hx1, hx2⟩ := rix_lt hg
  refine wp_seq (rg_c FF MM [(0, s_ 0 (.cells (cn .u8 K) 41)), (0, s_ 0 (.cells (cn .u8 N) 44))] 9 [] [1, 2] (⟨(by kernel_rfl), fun bk => ⟨(by kernel_rfl), fun bn => fun _ _ FF1 MM1 => then_n ?_⟩⟩))
  refine wp_seq ?_
  refine wp_seq (rg_c FF1 MM1 [(3, l_ 2 (.slice p dn.length c)), (1, u_ 4 (.int .i64 (((dn.length : Nat) : Int) - 1 : Int)))] 9 [9] [] (⟨rfl, rfl, by omega, by omega, (vZ (by omega)), fun _ _ FF2 MM2 => then_n ?_⟩))
  refine wp_for2 (fun a' w' => ∃ j : Nat, j ≤ dn.length ∧ rix (K, N, B) dn < j ∧ Fr 55 a' [(9, .int .i64 (((j : Nat) : Int) - 1 : Int)), (6, pT bn), (5, pT bk), (0, pT q), (3, sB B)] ∧ MemS (fun k => k < w0.heap.size ∧ ∀ x ∈ (q, oC #[.bool i, t, v1, v2, .slice p dn.length c, iN f] 37) :: O, x.1 ≠ k) w0 w' ((bn, .cells (cn .u8 N) 44) :: (bk, .cells (cn .u8 K) 41) :: (q, oC #[.bool i, t, v1, v2, .slice p dn.length c, iN f] 37) :: O) []) (fun a' _ => (cnt 9 a' + 1).toNat) ⟨dn.length, Nat.le_refl _, hx1, FF2.pick [0, 2, 3, 4, 5], MM2⟩ ?_
  rintro ac3 wd3 ⟨j, hj, hx, FF3, MM3⟩
  have hc := cnt_of (FF3.get 0 rfl)
  refine rg_c FF3 MM3 [(1, w_ 4)] 10 [17] [] (fun _ _ FF4 MM4 => ?_)
  by_cases hlt : (((j : Nat) : Int) - 1) ≥ ((0 : Nat) : Int)
  · skip
    refine then_n (.inl ⟨(FF4.ev 0 rfl).trans (dec_t hlt), ?_⟩)
    obtain ⟨j, rfl⟩ : ∃ z, j = z + 1 := ⟨j - 1, by omega⟩
    have hj0 : j < dn.length := by omega
    by_cases h1 : (notAt dn j).1.1 = K
    · skip
      by_cases h2 : (notAt dn j).1.2.1 = N
      · skip
        by_cases h3 : (notAt dn j).1.2.2 = B
        · skip
          have hE : j = rix (K, N, B) dn := by
            rcases Nat.lt_or_ge (rix (K, N, B) dn) j with h9 | h9
            · exact (rix_ne hg h9 hj0 (Prod.ext h1 (Prod.ext h2 h3))).elim
            · omega
          refine wp_seq (rg_dc 34 FF4 MM4 [(3, l_ 2 (.slice p dn.length c)), (0, t_ (iN j)), (0, f_ (.pointer (some ⟨gOf p, oOf p + j * 46, none⟩))), (1, f_ (.agg (cn .u8 ((notAt dn j).1.1)))), (0, b_ 1), (0, f_ (.bool true)), (4, l_ 2 (.slice p dn.length c)), (0, t_ (iN j)), (0, f_ (.pointer (some ⟨gOf p, oOf p + j * 46, none⟩))), (1, f_ (.agg (cn .u8 ((notAt dn j).1.2.1)))), (0, b_ 0), (0, f_ (.bool true)), (5, l_ 2 (.slice p dn.length c)), (0, t_ (iN j)), (0, f_ (.pointer (some ⟨gOf p, oOf p + j * 46, none⟩))), (1, f_ (sB ((notAt dn j).1.2.2))), (1, w_ 2)] [] 10 [53] [] (⟨rfl, rfl, (vZ (by omega)), (rowX_addr (x := (.tmp 23)) (y := (.tmp 24)) (k := 46) (i := j) (by kernel_rfl) rfl rfl Try.underlying35 (by kernel_rfl) hR (by omega) hj0), (rowX_loadA (x := (.tmp 26)) (j := j * 46) (k := 32) (vs := (cn .u8 ((notAt dn j).1.1)).toList) (by kernel_rfl) rfl Try.underlying41 rfl (by kernel_rfl) (by rw [Array.length_toList, cn_size]; exact (not_ok hk hj0).1.1.1) hR (fun _ hx => List.mem_cons_of_mem _ (List.mem_cons_of_mem _ (List.mem_cons_of_mem _ (hx)))) (by omega) (by decide) (note_k hk hj0)), rfl, ((cn_size _ _).trans hK.1), (eqA_ok (t := 41) (t' := 41) (e := 5) (m := 32) (k := .u8) (x := (.tmp 27)) (y := (.tmp 28)) (by kernel_rfl) Try.underlying41 Try.underlying5 (by kernel_rfl) (by kernel_rfl) (by kernel_rfl) rfl rfl (not_ok hk hj0).1.1.1 hK.1 (decide_eq_true h1)), rfl, rfl, (vZ (by omega)), (rowX_addr (x := (.tmp 34)) (y := (.tmp 35)) (k := 46) (i := j) (by kernel_rfl) rfl rfl Try.underlying35 (by kernel_rfl) hR (by omega) hj0), (rowX_loadA (x := (.tmp 37)) (j := j * 46 + 32) (k := 12) (vs := (cn .u8 ((notAt dn j).1.2.1)).toList) (by kernel_rfl) rfl Try.underlying44 rfl (by kernel_rfl) (by rw [Array.length_toList, cn_size]; exact (not_ok hk hj0).1.2.1.1) hR (fun _ hx => List.mem_cons_of_mem _ (List.mem_cons_of_mem _ (List.mem_cons_of_mem _ (hx)))) (by omega) (by decide) (note_n hk hj0)), rfl, ((cn_size _ _).trans hN.1), (eqA_ok (t := 44) (t' := 44) (e := 5) (m := 12) (k := .u8) (x := (.tmp 38)) (y := (.tmp 39)) (by kernel_rfl) Try.underlying44 Try.underlying5 (by kernel_rfl) (by kernel_rfl) (by kernel_rfl) rfl rfl (not_ok hk hj0).1.2.1.1 hN.1 (decide_eq_true h2)), rfl, rfl, (vZ (by omega)), (rowX_addr (x := (.tmp 46)) (y := (.tmp 47)) (k := 46) (i := j) (by kernel_rfl) rfl rfl Try.underlying35 (by kernel_rfl) hR (by omega) hj0), (rowX_load (x := (.tmp 49)) (j := j * 46 + 44) (by kernel_rfl) rfl Try.underlying9 rfl hR (fun _ hx => List.mem_cons_of_mem _ (List.mem_cons_of_mem _ (List.mem_cons_of_mem _ (hx)))) (by omega) (note_b hk hj0).1), (congrArg bs h3), fun _ _ FF5 MM5 => then_n ?_⟩))
          refine wp_cond_true (FF5.ev 0 rfl) ?_
          refine wp_seq (rg_c FF5 MM5 [(0, t_ (iN j))] 9 [9] [] (⟨(vZ (by omega)), fun _ _ FF6 MM6 => then_n ?_⟩))
          refine wp_ret ?_
          repeat first | refine then_ret ?_ | refine inb_ret ?_
          exact (ret_fr FF6 0 Try.results41 rfl ⟨by rw [hE], MM6.belowN H (fun x hx => (List.mem_cons.1 hx).elim (fun e => by subst e; exact List.mem_cons_of_mem _ (List.mem_cons_of_mem _ (List.mem_cons_self ..))) (fun hx => List.mem_cons_of_mem _ (List.mem_cons_of_mem _ (List.mem_cons_of_mem _ (hx)))))⟩)
        · skip
          have hE : rix (K, N, B) dn ≠ j := fun e => by have h9 := hx2; rw [e] at h9; rw [h9] at h3; exact h3 rfl
          refine wp_seq (rg_dc 34 FF4 MM4 [(3, l_ 2 (.slice p dn.length c)), (0, t_ (iN j)), (0, f_ (.pointer (some ⟨gOf p, oOf p + j * 46, none⟩))), (1, f_ (.agg (cn .u8 ((notAt dn j).1.1)))), (0, b_ 1), (0, f_ (.bool true)), (4, l_ 2 (.slice p dn.length c)), (0, t_ (iN j)), (0, f_ (.pointer (some ⟨gOf p, oOf p + j * 46, none⟩))), (1, f_ (.agg (cn .u8 ((notAt dn j).1.2.1)))), (0, b_ 0), (0, f_ (.bool true)), (5, l_ 2 (.slice p dn.length c)), (0, t_ (iN j)), (0, f_ (.pointer (some ⟨gOf p, oOf p + j * 46, none⟩))), (1, f_ (sB ((notAt dn j).1.2.2))), (1, w_ 3)] [] 10 [53] [] (⟨rfl, rfl, (vZ (by omega)), (rowX_addr (x := (.tmp 23)) (y := (.tmp 24)) (k := 46) (i := j) (by kernel_rfl) rfl rfl Try.underlying35 (by kernel_rfl) hR (by omega) hj0), (rowX_loadA (x := (.tmp 26)) (j := j * 46) (k := 32) (vs := (cn .u8 ((notAt dn j).1.1)).toList) (by kernel_rfl) rfl Try.underlying41 rfl (by kernel_rfl) (by rw [Array.length_toList, cn_size]; exact (not_ok hk hj0).1.1.1) hR (fun _ hx => List.mem_cons_of_mem _ (List.mem_cons_of_mem _ (List.mem_cons_of_mem _ (hx)))) (by omega) (by decide) (note_k hk hj0)), rfl, ((cn_size _ _).trans hK.1), (eqA_ok (t := 41) (t' := 41) (e := 5) (m := 32) (k := .u8) (x := (.tmp 27)) (y := (.tmp 28)) (by kernel_rfl) Try.underlying41 Try.underlying5 (by kernel_rfl) (by kernel_rfl) (by kernel_rfl) rfl rfl (not_ok hk hj0).1.1.1 hK.1 (decide_eq_true h1)), rfl, rfl, (vZ (by omega)), (rowX_addr (x := (.tmp 34)) (y := (.tmp 35)) (k := 46) (i := j) (by kernel_rfl) rfl rfl Try.underlying35 (by kernel_rfl) hR (by omega) hj0), (rowX_loadA (x := (.tmp 37)) (j := j * 46 + 32) (k := 12) (vs := (cn .u8 ((notAt dn j).1.2.1)).toList) (by kernel_rfl) rfl Try.underlying44 rfl (by kernel_rfl) (by rw [Array.length_toList, cn_size]; exact (not_ok hk hj0).1.2.1.1) hR (fun _ hx => List.mem_cons_of_mem _ (List.mem_cons_of_mem _ (List.mem_cons_of_mem _ (hx)))) (by omega) (by decide) (note_n hk hj0)), rfl, ((cn_size _ _).trans hN.1), (eqA_ok (t := 44) (t' := 44) (e := 5) (m := 12) (k := .u8) (x := (.tmp 38)) (y := (.tmp 39)) (by kernel_rfl) Try.underlying44 Try.underlying5 (by kernel_rfl) (by kernel_rfl) (by kernel_rfl) rfl rfl (not_ok hk hj0).1.2.1.1 hN.1 (decide_eq_true h2)), rfl, rfl, (vZ (by omega)), (rowX_addr (x := (.tmp 46)) (y := (.tmp 47)) (k := 46) (i := j) (by kernel_rfl) rfl rfl Try.underlying35 (by kernel_rfl) hR (by omega) hj0), (rowX_load (x := (.tmp 49)) (j := j * 46 + 44) (by kernel_rfl) rfl Try.underlying9 rfl hR (fun _ hx => List.mem_cons_of_mem _ (List.mem_cons_of_mem _ (List.mem_cons_of_mem _ (hx)))) (by omega) (note_b hk hj0).1), (fun e => h3 (bs_inj (not_ok hk hj0).1.2.2.1 hB e)), fun _ _ FF7 MM7 => then_n ?_⟩))
          refine wp_cond_false (FF7.ev 0 rfl) ?_
          refine wp_skip ?_
          refine inb_n (then_n ?_)
          refine rg_c FF7 MM7 [(1, u_ 4 (.int .i64 (((j : Nat) : Int) - 1 : Int)))] 7 [9] [] (⟨by omega, by omega, (vZ (by omega)), fun _ _ FF8 MM8 => ?_⟩)
          have hd := cnt_of (FF8.get 0 rfl)
          refine then_n ⟨⟨j, by omega, by omega, FF8.pick [0, 1, 2, 3, 4], MM8⟩, ?_⟩
          rw [hc, hd]; omega
      · skip
        have hE : rix (K, N, B) dn ≠ j := fun e => by have h9 := hx2; rw [e] at h9; rw [h9] at h2; exact h2 rfl
        refine wp_seq (rg_dc 34 FF4 MM4 [(3, l_ 2 (.slice p dn.length c)), (0, t_ (iN j)), (0, f_ (.pointer (some ⟨gOf p, oOf p + j * 46, none⟩))), (1, f_ (.agg (cn .u8 ((notAt dn j).1.1)))), (0, b_ 1), (0, f_ (.bool true)), (4, l_ 2 (.slice p dn.length c)), (0, t_ (iN j)), (0, f_ (.pointer (some ⟨gOf p, oOf p + j * 46, none⟩))), (1, f_ (.agg (cn .u8 ((notAt dn j).1.2.1)))), (0, b_ 0), (0, f_ (.bool false))] [] 10 [53] [] (⟨rfl, rfl, (vZ (by omega)), (rowX_addr (x := (.tmp 23)) (y := (.tmp 24)) (k := 46) (i := j) (by kernel_rfl) rfl rfl Try.underlying35 (by kernel_rfl) hR (by omega) hj0), (rowX_loadA (x := (.tmp 26)) (j := j * 46) (k := 32) (vs := (cn .u8 ((notAt dn j).1.1)).toList) (by kernel_rfl) rfl Try.underlying41 rfl (by kernel_rfl) (by rw [Array.length_toList, cn_size]; exact (not_ok hk hj0).1.1.1) hR (fun _ hx => List.mem_cons_of_mem _ (List.mem_cons_of_mem _ (List.mem_cons_of_mem _ (hx)))) (by omega) (by decide) (note_k hk hj0)), rfl, ((cn_size _ _).trans hK.1), (eqA_ok (t := 41) (t' := 41) (e := 5) (m := 32) (k := .u8) (x := (.tmp 27)) (y := (.tmp 28)) (by kernel_rfl) Try.underlying41 Try.underlying5 (by kernel_rfl) (by kernel_rfl) (by kernel_rfl) rfl rfl (not_ok hk hj0).1.1.1 hK.1 (decide_eq_true h1)), rfl, rfl, (vZ (by omega)), (rowX_addr (x := (.tmp 34)) (y := (.tmp 35)) (k := 46) (i := j) (by kernel_rfl) rfl rfl Try.underlying35 (by kernel_rfl) hR (by omega) hj0), (rowX_loadA (x := (.tmp 37)) (j := j * 46 + 32) (k := 12) (vs := (cn .u8 ((notAt dn j).1.2.1)).toList) (by kernel_rfl) rfl Try.underlying44 rfl (by kernel_rfl) (by rw [Array.length_toList, cn_size]; exact (not_ok hk hj0).1.2.1.1) hR (fun _ hx => List.mem_cons_of_mem _ (List.mem_cons_of_mem _ (List.mem_cons_of_mem _ (hx)))) (by omega) (by decide) (note_n hk hj0)), rfl, ((cn_size _ _).trans hN.1), (eqA_ok (t := 44) (t' := 44) (e := 5) (m := 12) (k := .u8) (x := (.tmp 38)) (y := (.tmp 39)) (by kernel_rfl) Try.underlying44 Try.underlying5 (by kernel_rfl) (by kernel_rfl) (by kernel_rfl) rfl rfl (not_ok hk hj0).1.2.1.1 hN.1 (decide_eq_false h2)), fun _ _ FF9 MM9 => then_n ?_⟩))
        refine wp_cond_false (FF9.ev 0 rfl) ?_
        refine wp_skip ?_
        refine inb_n (then_n ?_)
        refine rg_c FF9 MM9 [(1, u_ 4 (.int .i64 (((j : Nat) : Int) - 1 : Int)))] 7 [9] [] (⟨by omega, by omega, (vZ (by omega)), fun _ _ FF10 MM10 => ?_⟩)
        have hd := cnt_of (FF10.get 0 rfl)
        refine then_n ⟨⟨j, by omega, by omega, FF10.pick [0, 1, 2, 3, 4], MM10⟩, ?_⟩
        rw [hc, hd]; omega
    · skip
      have hE : rix (K, N, B) dn ≠ j := fun e => by have h9 := hx2; rw [e] at h9; rw [h9] at h1; exact h1 rfl
      refine wp_seq (rg_dc 34 FF4 MM4 [(3, l_ 2 (.slice p dn.length c)), (0, t_ (iN j)), (0, f_ (.pointer (some ⟨gOf p, oOf p + j * 46, none⟩))), (1, f_ (.agg (cn .u8 ((notAt dn j).1.1)))), (0, b_ 1), (0, f_ (.bool false))] [] 10 [53] [] (⟨rfl, rfl, (vZ (by omega)), (rowX_addr (x := (.tmp 23)) (y := (.tmp 24)) (k := 46) (i := j) (by kernel_rfl) rfl rfl Try.underlying35 (by kernel_rfl) hR (by omega) hj0), (rowX_loadA (x := (.tmp 26)) (j := j * 46) (k := 32) (vs := (cn .u8 ((notAt dn j).1.1)).toList) (by kernel_rfl) rfl Try.underlying41 rfl (by kernel_rfl) (by rw [Array.length_toList, cn_size]; exact (not_ok hk hj0).1.1.1) hR (fun _ hx => List.mem_cons_of_mem _ (List.mem_cons_of_mem _ (List.mem_cons_of_mem _ (hx)))) (by omega) (by decide) (note_k hk hj0)), rfl, ((cn_size _ _).trans hK.1), (eqA_ok (t := 41) (t' := 41) (e := 5) (m := 32) (k := .u8) (x := (.tmp 27)) (y := (.tmp 28)) (by kernel_rfl) Try.underlying41 Try.underlying5 (by kernel_rfl) (by kernel_rfl) (by kernel_rfl) rfl rfl (not_ok hk hj0).1.1.1 hK.1 (decide_eq_false h1)), fun _ _ FF11 MM11 => then_n ?_⟩))
      refine wp_cond_false (FF11.ev 0 rfl) ?_
      refine wp_skip ?_
      refine inb_n (then_n ?_)
      refine rg_c FF11 MM11 [(1, u_ 4 (.int .i64 (((j : Nat) : Int) - 1 : Int)))] 7 [9] [] (⟨by omega, by omega, (vZ (by omega)), fun _ _ FF12 MM12 => ?_⟩)
      have hd := cnt_of (FF12.get 0 rfl)
      refine then_n ⟨⟨j, by omega, by omega, FF12.pick [0, 1, 2, 3, 4], MM12⟩, ?_⟩
      rw [hc, hd]; omega
  · skip
    refine then_n (.inr ⟨(FF4.ev 0 rfl).trans (dec_f hlt), ?_⟩)
    refine then_n ?_
    refine wp_seq (rg_c FF4 MM4 [] 9 [9] [] (fun _ _ FF13 _ => then_n ?_))
    refine wp_ret ?_
    repeat first | refine then_ret ?_ | refine inb_ret ?_
    exact (ret_fr FF13 0 Try.results41 rfl (by omega))
set_option maxHeartbeats 1000000 in
set_option maxRecDepth 100000 in
theorem bnoted_no {O : Blks} {q : Nat} {i : Bool} {t v1 v2 : Value} {f : Nat} {p : Option Addr} {c : Nat} {K N B : List Nat} {dn : Notes} (hg : rget (K, N, B) dn = none) (hk : OkN dn) (hl : dn.length ≤ 1000000) (hK : BytesK 32 K) (hN : BytesK 12 N) (hB : ∀ i, B.getD i 0 < 256) (hR : RowO O p (dn.length * 46) (fun j => (notC dn).getD j undef)) (w0 : World) (H : Has w0 ((q, oC #[.bool i, t, v1, v2, .slice p dn.length c, iN f] 37) :: O)) (hD : Distinct ((q, oC #[.bool i, t, v1, v2, .slice p dn.length c, iN f] 37) :: O)) :
    Calls Try.prog 41 #[pT q, .agg (cn .u8 K), .agg (cn .u8 N), sB B] w0 fun e w' => e = .returned (.int .i64 (-1 : Int)) ∧ Below w0.heap.size w0 w' := by
  refine enter_fr Try.func41 rfl Try.ntmps41 (by simp) fun ac (FF : Fr 55 ac [(0, pT q), (1, .agg (cn .u8 K)), (2, .agg (cn .u8 N)), (3, sB B)]) => ?_
  have MM : MemS (fun k => k < w0.heap.size ∧ ∀ x ∈ (q, oC #[.bool i, t, v1, v2, .slice p dn.length c, iN f] 37) :: O, x.1 ≠ k) w0 w0 ((q, oC #[.bool i, t, v1, v2, .slice p dn.length c, iN f] 37) :: O) [] := MemS.startN H hD
  refine wp_seq (rg_c FF MM [(0, s_ 0 (.cells (cn .u8 K) 41)), (0, s_ 0 (.cells (cn .u8 N) 44))] 9 [] [1, 2] (⟨(by kernel_rfl), fun bk => ⟨(by kernel_rfl), fun bn => fun _ _ FF1 MM1 => then_n ?_⟩⟩))
  refine wp_seq ?_
  refine wp_seq (rg_c FF1 MM1 [(3, l_ 2 (.slice p dn.length c)), (1, u_ 4 (.int .i64 (((dn.length : Nat) : Int) - 1 : Int)))] 9 [9] [] (⟨rfl, rfl, by omega, by omega, (vZ (by omega)), fun _ _ FF2 MM2 => then_n ?_⟩))
  refine wp_for2 (fun a' w' => ∃ j : Nat, j ≤ dn.length ∧ Fr 55 a' [(9, .int .i64 (((j : Nat) : Int) - 1 : Int)), (6, pT bn), (5, pT bk), (0, pT q), (3, sB B)] ∧ MemS (fun k => k < w0.heap.size ∧ ∀ x ∈ (q, oC #[.bool i, t, v1, v2, .slice p dn.length c, iN f] 37) :: O, x.1 ≠ k) w0 w' ((bn, .cells (cn .u8 N) 44) :: (bk, .cells (cn .u8 K) 41) :: (q, oC #[.bool i, t, v1, v2, .slice p dn.length c, iN f] 37) :: O) []) (fun a' _ => (cnt 9 a' + 1).toNat) ⟨dn.length, Nat.le_refl _, FF2.pick [0, 2, 3, 4, 5], MM2⟩ ?_
  rintro ac3 wd3 ⟨j, hj, FF3, MM3⟩
  have hc := cnt_of (FF3.get 0 rfl)
  refine rg_c FF3 MM3 [(1, w_ 4)] 10 [17] [] (fun _ _ FF4 MM4 => ?_)
  by_cases hlt : (((j : Nat) : Int) - 1) ≥ ((0 : Nat) : Int)
  · skip
    refine then_n (.inl ⟨(FF4.ev 0 rfl).trans (dec_t hlt), ?_⟩)
    obtain ⟨j, rfl⟩ : ∃ z, j = z + 1 := ⟨j - 1, by omega⟩
    have hj0 : j < dn.length := by omega
    by_cases h1 : (notAt dn j).1.1 = K
    · skip
      by_cases h2 : (notAt dn j).1.2.1 = N
      · skip
        by_cases h3 : (notAt dn j).1.2.2 = B
        · skip
          exact (rnone_ne hg hj0 (Prod.ext h1 (Prod.ext h2 h3))).elim
        · skip
          refine wp_seq (rg_dc 34 FF4 MM4 [(3, l_ 2 (.slice p dn.length c)), (0, t_ (iN j)), (0, f_ (.pointer (some ⟨gOf p, oOf p + j * 46, none⟩))), (1, f_ (.agg (cn .u8 ((notAt dn j).1.1)))), (0, b_ 1), (0, f_ (.bool true)), (4, l_ 2 (.slice p dn.length c)), (0, t_ (iN j)), (0, f_ (.pointer (some ⟨gOf p, oOf p + j * 46, none⟩))), (1, f_ (.agg (cn .u8 ((notAt dn j).1.2.1)))), (0, b_ 0), (0, f_ (.bool true)), (5, l_ 2 (.slice p dn.length c)), (0, t_ (iN j)), (0, f_ (.pointer (some ⟨gOf p, oOf p + j * 46, none⟩))), (1, f_ (sB ((notAt dn j).1.2.2))), (1, w_ 3)] [] 10 [53] [] (⟨rfl, rfl, (vZ (by omega)), (rowX_addr (x := (.tmp 23)) (y := (.tmp 24)) (k := 46) (i := j) (by kernel_rfl) rfl rfl Try.underlying35 (by kernel_rfl) hR (by omega) hj0), (rowX_loadA (x := (.tmp 26)) (j := j * 46) (k := 32) (vs := (cn .u8 ((notAt dn j).1.1)).toList) (by kernel_rfl) rfl Try.underlying41 rfl (by kernel_rfl) (by rw [Array.length_toList, cn_size]; exact (not_ok hk hj0).1.1.1) hR (fun _ hx => List.mem_cons_of_mem _ (List.mem_cons_of_mem _ (List.mem_cons_of_mem _ (hx)))) (by omega) (by decide) (note_k hk hj0)), rfl, ((cn_size _ _).trans hK.1), (eqA_ok (t := 41) (t' := 41) (e := 5) (m := 32) (k := .u8) (x := (.tmp 27)) (y := (.tmp 28)) (by kernel_rfl) Try.underlying41 Try.underlying5 (by kernel_rfl) (by kernel_rfl) (by kernel_rfl) rfl rfl (not_ok hk hj0).1.1.1 hK.1 (decide_eq_true h1)), rfl, rfl, (vZ (by omega)), (rowX_addr (x := (.tmp 34)) (y := (.tmp 35)) (k := 46) (i := j) (by kernel_rfl) rfl rfl Try.underlying35 (by kernel_rfl) hR (by omega) hj0), (rowX_loadA (x := (.tmp 37)) (j := j * 46 + 32) (k := 12) (vs := (cn .u8 ((notAt dn j).1.2.1)).toList) (by kernel_rfl) rfl Try.underlying44 rfl (by kernel_rfl) (by rw [Array.length_toList, cn_size]; exact (not_ok hk hj0).1.2.1.1) hR (fun _ hx => List.mem_cons_of_mem _ (List.mem_cons_of_mem _ (List.mem_cons_of_mem _ (hx)))) (by omega) (by decide) (note_n hk hj0)), rfl, ((cn_size _ _).trans hN.1), (eqA_ok (t := 44) (t' := 44) (e := 5) (m := 12) (k := .u8) (x := (.tmp 38)) (y := (.tmp 39)) (by kernel_rfl) Try.underlying44 Try.underlying5 (by kernel_rfl) (by kernel_rfl) (by kernel_rfl) rfl rfl (not_ok hk hj0).1.2.1.1 hN.1 (decide_eq_true h2)), rfl, rfl, (vZ (by omega)), (rowX_addr (x := (.tmp 46)) (y := (.tmp 47)) (k := 46) (i := j) (by kernel_rfl) rfl rfl Try.underlying35 (by kernel_rfl) hR (by omega) hj0), (rowX_load (x := (.tmp 49)) (j := j * 46 + 44) (by kernel_rfl) rfl Try.underlying9 rfl hR (fun _ hx => List.mem_cons_of_mem _ (List.mem_cons_of_mem _ (List.mem_cons_of_mem _ (hx)))) (by omega) (note_b hk hj0).1), (fun e => h3 (bs_inj (not_ok hk hj0).1.2.2.1 hB e)), fun _ _ FF5 MM5 => then_n ?_⟩))
          refine wp_cond_false (FF5.ev 0 rfl) ?_
          refine wp_skip ?_
          refine inb_n (then_n ?_)
          refine rg_c FF5 MM5 [(1, u_ 4 (.int .i64 (((j : Nat) : Int) - 1 : Int)))] 7 [9] [] (⟨by omega, by omega, (vZ (by omega)), fun _ _ FF6 MM6 => ?_⟩)
          have hd := cnt_of (FF6.get 0 rfl)
          refine then_n ⟨⟨j, by omega, FF6.pick [0, 1, 2, 3, 4], MM6⟩, ?_⟩
          rw [hc, hd]; omega
      · skip
        refine wp_seq (rg_dc 34 FF4 MM4 [(3, l_ 2 (.slice p dn.length c)), (0, t_ (iN j)), (0, f_ (.pointer (some ⟨gOf p, oOf p + j * 46, none⟩))), (1, f_ (.agg (cn .u8 ((notAt dn j).1.1)))), (0, b_ 1), (0, f_ (.bool true)), (4, l_ 2 (.slice p dn.length c)), (0, t_ (iN j)), (0, f_ (.pointer (some ⟨gOf p, oOf p + j * 46, none⟩))), (1, f_ (.agg (cn .u8 ((notAt dn j).1.2.1)))), (0, b_ 0), (0, f_ (.bool false))] [] 10 [53] [] (⟨rfl, rfl, (vZ (by omega)), (rowX_addr (x := (.tmp 23)) (y := (.tmp 24)) (k := 46) (i := j) (by kernel_rfl) rfl rfl Try.underlying35 (by kernel_rfl) hR (by omega) hj0), (rowX_loadA (x := (.tmp 26)) (j := j * 46) (k := 32) (vs := (cn .u8 ((notAt dn j).1.1)).toList) (by kernel_rfl) rfl Try.underlying41 rfl (by kernel_rfl) (by rw [Array.length_toList, cn_size]; exact (not_ok hk hj0).1.1.1) hR (fun _ hx => List.mem_cons_of_mem _ (List.mem_cons_of_mem _ (List.mem_cons_of_mem _ (hx)))) (by omega) (by decide) (note_k hk hj0)), rfl, ((cn_size _ _).trans hK.1), (eqA_ok (t := 41) (t' := 41) (e := 5) (m := 32) (k := .u8) (x := (.tmp 27)) (y := (.tmp 28)) (by kernel_rfl) Try.underlying41 Try.underlying5 (by kernel_rfl) (by kernel_rfl) (by kernel_rfl) rfl rfl (not_ok hk hj0).1.1.1 hK.1 (decide_eq_true h1)), rfl, rfl, (vZ (by omega)), (rowX_addr (x := (.tmp 34)) (y := (.tmp 35)) (k := 46) (i := j) (by kernel_rfl) rfl rfl Try.underlying35 (by kernel_rfl) hR (by omega) hj0), (rowX_loadA (x := (.tmp 37)) (j := j * 46 + 32) (k := 12) (vs := (cn .u8 ((notAt dn j).1.2.1)).toList) (by kernel_rfl) rfl Try.underlying44 rfl (by kernel_rfl) (by rw [Array.length_toList, cn_size]; exact (not_ok hk hj0).1.2.1.1) hR (fun _ hx => List.mem_cons_of_mem _ (List.mem_cons_of_mem _ (List.mem_cons_of_mem _ (hx)))) (by omega) (by decide) (note_n hk hj0)), rfl, ((cn_size _ _).trans hN.1), (eqA_ok (t := 44) (t' := 44) (e := 5) (m := 12) (k := .u8) (x := (.tmp 38)) (y := (.tmp 39)) (by kernel_rfl) Try.underlying44 Try.underlying5 (by kernel_rfl) (by kernel_rfl) (by kernel_rfl) rfl rfl (not_ok hk hj0).1.2.1.1 hN.1 (decide_eq_false h2)), fun _ _ FF7 MM7 => then_n ?_⟩))
        refine wp_cond_false (FF7.ev 0 rfl) ?_
        refine wp_skip ?_
        refine inb_n (then_n ?_)
        refine rg_c FF7 MM7 [(1, u_ 4 (.int .i64 (((j : Nat) : Int) - 1 : Int)))] 7 [9] [] (⟨by omega, by omega, (vZ (by omega)), fun _ _ FF8 MM8 => ?_⟩)
        have hd := cnt_of (FF8.get 0 rfl)
        refine then_n ⟨⟨j, by omega, FF8.pick [0, 1, 2, 3, 4], MM8⟩, ?_⟩
        rw [hc, hd]; omega
    · skip
      refine wp_seq (rg_dc 34 FF4 MM4 [(3, l_ 2 (.slice p dn.length c)), (0, t_ (iN j)), (0, f_ (.pointer (some ⟨gOf p, oOf p + j * 46, none⟩))), (1, f_ (.agg (cn .u8 ((notAt dn j).1.1)))), (0, b_ 1), (0, f_ (.bool false))] [] 10 [53] [] (⟨rfl, rfl, (vZ (by omega)), (rowX_addr (x := (.tmp 23)) (y := (.tmp 24)) (k := 46) (i := j) (by kernel_rfl) rfl rfl Try.underlying35 (by kernel_rfl) hR (by omega) hj0), (rowX_loadA (x := (.tmp 26)) (j := j * 46) (k := 32) (vs := (cn .u8 ((notAt dn j).1.1)).toList) (by kernel_rfl) rfl Try.underlying41 rfl (by kernel_rfl) (by rw [Array.length_toList, cn_size]; exact (not_ok hk hj0).1.1.1) hR (fun _ hx => List.mem_cons_of_mem _ (List.mem_cons_of_mem _ (List.mem_cons_of_mem _ (hx)))) (by omega) (by decide) (note_k hk hj0)), rfl, ((cn_size _ _).trans hK.1), (eqA_ok (t := 41) (t' := 41) (e := 5) (m := 32) (k := .u8) (x := (.tmp 27)) (y := (.tmp 28)) (by kernel_rfl) Try.underlying41 Try.underlying5 (by kernel_rfl) (by kernel_rfl) (by kernel_rfl) rfl rfl (not_ok hk hj0).1.1.1 hK.1 (decide_eq_false h1)), fun _ _ FF9 MM9 => then_n ?_⟩))
      refine wp_cond_false (FF9.ev 0 rfl) ?_
      refine wp_skip ?_
      refine inb_n (then_n ?_)
      refine rg_c FF9 MM9 [(1, u_ 4 (.int .i64 (((j : Nat) : Int) - 1 : Int)))] 7 [9] [] (⟨by omega, by omega, (vZ (by omega)), fun _ _ FF10 MM10 => ?_⟩)
      have hd := cnt_of (FF10.get 0 rfl)
      refine then_n ⟨⟨j, by omega, FF10.pick [0, 1, 2, 3, 4], MM10⟩, ?_⟩
      rw [hc, hd]; omega
  · skip
    refine then_n (.inr ⟨(FF4.ev 0 rfl).trans (dec_f hlt), ?_⟩)
    refine then_n ?_
    refine wp_seq (rg_c FF4 MM4 [] 9 [9] [] (fun _ _ FF11 MM11 => then_n ?_))
    refine wp_ret ?_
    repeat first | refine then_ret ?_ | refine inb_ret ?_
    exact (ret_fr FF11 0 Try.results41 rfl ⟨rfl, MM11.belowN H (fun x hx => (List.mem_cons.1 hx).elim (fun e => by subst e; exact List.mem_cons_of_mem _ (List.mem_cons_of_mem _ (List.mem_cons_self ..))) (fun hx => List.mem_cons_of_mem _ (List.mem_cons_of_mem _ (List.mem_cons_of_mem _ (hx)))))⟩)
end Go.Proofs.Ytniplfjnpjihoaa
