/- Several texts in one: ChaCha20: the mask. Package aead: the walks. Package book: maps; Shared, Key, ID, Share, ShareID. Package book: Seal. Package book: Open, Forged, New. Package wire: bodies, requests. Books of nil. Package talk: lesser, inRow, keyOf, nonce, Name, Meet. Package talk: Idle, Say, Hear. -/
import Derived.Test.YtdjpacgjhcidpabGreatDoorZ6
import Derived.Test.YtdjpacgjhcidpabGreatDoorZ3
import Derived.ChangeMaps4
import Derived.Test.YtdjpacgjhcidpabGreatDoorZ4
import Derived.Shelf.Strings.Repeat
namespace Go.Proofs.YtdjpacgjhcidpabGreatDoor
open Go.RowKit
theorem laid_len (ks : List Nat) (c : Nat) (ns : List Nat) : (laid ks c ns).length = 16 := rfl
theorem sl_eq {b o o' n n' c c' : Nat} (h1 : o = o') (h2 : n = n') (h3 : c = c') : Value.slice (some ⟨b, o, none⟩) n c = Value.slice (some ⟨b, o', none⟩) n' c' := by subst h1 h2 h3; rfl
theorem mask_str {ks ns X : List Nat} {c q k : Nat} (hX : ∀ i, X.getD i 0 < 256) (h : X.length ≤ 64 * k) : StrAt (cn .u8 (mTo ks c ns (X ++ List.replicate q 0) X.length k)) 0 X.length (bs (maskN ks c ns X)) := by
  have h1 := str_part (X := mTo ks c ns (X ++ List.replicate q 0) X.length k) (n := X.length + q) (off := 0) (len := X.length) ((mTo_len _ _ _ _ _ _).trans (rep_len _ _)) (mTo_lt ks c ns _ X.length (by rw [rep_len]; omega) (rep_lt hX q) k) (by omega)
  rwa [List.drop_zero, mTo_all _ _ _ _ _ _ h] at h1
set_option maxHeartbeats 1000000 in
set_option maxRecDepth 100000 in
theorem Mask_any (ks ns X : List Nat) (c : Nat) (hks : Bytes 32 ks) (hc : c < 4294967296) (hns : Bytes 12 ns) (hX : ∀ i, X.getD i 0 < 256) (w0 : World) :
    Calls Tryz.prog 42 #[.agg (cn .u8 ks), .int .u32 (c : Nat), .agg (cn .u8 ns), sB X] w0 fun e w' => e = .returned (sB (maskN ks c ns X)) ∧ Below w0.heap.size w0 w' := by
  refine enter_fr Tryz.func42 rfl Tryz.ntmps42 (by simp) fun ac (FF : Fr 37 ac [(0, .agg (cn .u8 ks)), (1, .int .u32 (c : Nat)), (2, .agg (cn .u8 ns)), (3, sB X)]) => ?_
  have MM := MemS.start w0
  have HW : ∀ k, Words (laid ks ((c + k) % 4294967296) ns) := fun k => laid_words hks (Nat.mod_lt _ (by decide)) hns
  refine wp_seq (rg_c FF MM [(0, s_ 0 (.cells (cn .u8 ks) 23)), (0, s_ 0 (.cells (cn .u8 ns) 56)), (0, t_ (sB []))] 9 [] [0, 2] (⟨(by kernel_rfl), fun bk => ⟨(by kernel_rfl), fun bn => ⟨(by kernel_rfl), fun _ _ FF1 MM1 => then_n ?_⟩⟩⟩))
  refine wp_seq (wp_region_list ?_)
  refine rp_c 1 FF1 MM1 [] 13 [] [3] (fun _ _ FF2 MM2 => ?_)
  refine st_new [8, 6, 4, 1, 13] FF2 MM2 (d := 13) (bytes_ok (e := 5) (x := (.tmp 12)) (by kernel_rfl) rfl hX Tryz.underlying9 Tryz.underlying59 Tryz.underlying5) rfl rfl (by decide) fun ac4 wd4 bo cz3 FF4 MM4 => ?_
  refine rp_c 1 FF4 MM4 [] 9 [9] [] (fun _ _ FF5 MM5 => ?_)
  refine wpl_nil (then_n ?_)
  have MMr9 : MemS _ _ _ [(bo, .cells (cn .u8 (mTo ks c ns (X ++ List.replicate cz3 0) X.length 0)) 5 (X.length + cz3, X.length + cz3 + 1)), _, _] _ := MM5
  refine wp_seq (rg_c FF5 MMr9 [(0, b_ 2), (1, b_ 1), (0, t_ (.agg (cn .u32 (laid ks c ns)))), (0, s_ 0 (.cells (cn .u32 (List.replicate 16 0)) 128)), (0, b_ 0)] 0 [9, 8, 10] [] (⟨rfl, ((cn_size _ _).trans hks.len), rfl, ((cn_size _ _).trans hns.len), (callP_of en_laid (laid_any ks ns c ⟨hks.len, hks.lt⟩ ⟨hns.len, hns.lt⟩) _), (by kernel_rfl), fun bw => ⟨rfl, ((cn_size _ _).trans (List.length_replicate ..)), ((cn_size _ _).trans rfl), (cn_one _ _), rfl, fun _ _ FF6 MM6 => then_n ?_⟩⟩))
  have MMr11 : MemS _ _ _ [(bw, .cells (cn .u32 (laid ks ((c + 0) % 4294967296) ns)) 128), _, _, _] _ := MM6.eqA 0 rfl (by rw [show (c + 0) % 4294967296 = c by omega] <;> rfl)
  refine wp_seq ?_
  refine wp_seq (rg_c FF6 MMr11 [(0, t_ (.slice (some ⟨bo, 0, none⟩) (X.length - min (64 * 0) X.length) (X.length + cz3 - min (64 * 0) X.length)))] 12 [] [] (⟨(sl_eq (by omega) (by omega) (by omega)), fun _ _ FF7 MM7 => then_n ?_⟩))
  refine wp_for2 (fun a' w' => ∃ k : Nat, ∃ o : Nat, (64 * k < X.length → o = 64 * k) ∧ Fr 37 a' [(11, .slice (some ⟨bo, o, none⟩) (X.length - min (64 * k) X.length) (X.length + cz3 - min (64 * k) X.length)), (10, pT bw), (9, .slice (some ⟨bo, 0, none⟩) X.length (X.length + cz3)), (8, sB [])] ∧ MemS (fun k => k < w0.heap.size) w0 w' [(bw, .cells (cn .u32 (laid ks ((c + k) % 4294967296) ns)) 128), (bo, .cells (cn .u8 (mTo ks c ns (X ++ List.replicate cz3 0) X.length k)) 5 (X.length + cz3, X.length + cz3 + 1)), (bn, .cells (cn .u8 ns) 56), (bk, .cells (cn .u8 ks) 23)] []) (fun a' _ => lenAt 11 a') ⟨0, 0, (fun _ => by omega), FF7.pick [0, 1, 2, 3], MM7⟩ ?_
  rintro ac8 wd8 ⟨k, o, ho, FF8, MM8⟩
  have hc1 := lenAt_of (FF8.get 0 rfl)
  refine rg_c FF8 MM8 [] 12 [21] [] (fun _ _ FF9 MM9 => ?_)
  by_cases hlt : (X.length - min (64 * k) X.length) > 0
  · skip
    refine then_n (.inl ⟨(FF9.ev 0 rfl).trans (dec_t hlt), ?_⟩)
    obtain rfl : o = min (64 * k) X.length := by omega
    refine wp_seq (rg_c FF9 MM9 [(1, b_ 0), (0, t_ (.agg (cn .u8 (blockN ks ((c + k) % 4294967296) ns)))), (0, c_ (.tuple #[]) [(1, .cells (cn .u8 (xorTo (mTo ks c ns (X ++ List.replicate cz3 0) X.length k) (min (64 * k) X.length) (blockN ks ((c + k) % 4294967296) ns) (min 64 (X.length - min (64 * k) X.length)))) 5 (X.length + cz3, X.length + cz3 + 1))])] 12 [] [] (⟨rfl, ((cn_size _ _).trans (laid_len ks ((c + k) % 4294967296) ns)), (callP_of en_cblk (cblk_any (laid ks ((c + k) % 4294967296) ns) (HW k)) _), ⟨en_cturn, fun w H => cturn_any (mTo ks c ns (X ++ List.replicate cz3 0) X.length k) (blockN ks ((c + k) % 4294967296) ns) (mTo_lt ks c ns _ X.length (by rw [rep_len]; omega) (rep_lt hX cz3) k) (blockW_len _) (blockW_lt _) _ _ _ _ 1 _ (by rw [mTo_len, rep_len]; omega) (fun i hi => .inr (show _ < X.length + cz3 by omega)) _ rfl w H⟩, fun _ _ FF10 MM10 => then_n ?_⟩))
    have MMr23 : MemS _ _ _ [_, (bo, .cells (cn .u8 (mTo ks c ns (X ++ List.replicate cz3 0) X.length (k + 1))) 5 (X.length + cz3, X.length + cz3 + 1)), _, _] _ := MM10
    refine rg_c FF10 MMr23 [(0, w_ 1), (0, l_ 0 (.int .u32 ((c + k) % 4294967296 : Nat))), (0, t_ (.int .u32 ((c + (k + 1)) % 4294967296 : Nat))), (0, w_ 1), (0, s_ 0 (.cells (cn .u32 (laid ks ((c + (k + 1)) % 4294967296) ns)) 128))] 12 [] [] (⟨by decide, rfl, rfl, (vI (by omega)), by decide, rfl, (by rw [cn_size, (laid_len ks ((c + k) % 4294967296) ns)]; decide), (.inl rfl), (cn_set _ _ _ _), fun _ _ FF11 MM11 => ?_⟩)
    refine inb_n (then_n ?_)
    by_cases hq : min 64 (X.length - min (64 * k) X.length) < X.length + cz3 - min (64 * k) X.length
    · skip
      refine rg_c FF11 MM11 [(3, f_ (iN (min 64 (X.length - min (64 * k) X.length)))), (0, t_ (.slice (some ⟨bo, min (64 * k) X.length + min 64 (X.length - min (64 * k) X.length), none⟩) (X.length - min (64 * (k + 1)) X.length) (X.length + cz3 - min (64 * (k + 1)) X.length)))] 12 [] [] (⟨(min_ok (t := 3) (u := 3) (x := (.const (iN 64))) (y := (.tmp 24)) (k := .i64) (m := 64) (n := X.length - min (64 * k) X.length) (r := min 64 (X.length - min (64 * k) X.length)) (by kernel_rfl) rfl rfl rfl), by omega, by omega, by omega, (sl_eq rfl (by omega) (by omega)), fun _ _ FF12 MM12 => ?_⟩)
      have hd1 := lenAt_of (FF12.get 0 rfl)
      refine then_n ⟨⟨k + 1, min (64 * k) X.length + min 64 (X.length - min (64 * k) X.length), (fun _ => by omega), FF12.pick [0, 1, 2, 3], MM12⟩, ?_⟩
      rw [hc1, hd1]; omega
    · skip
      refine rg_c FF11 MM11 [(3, f_ (iN (min 64 (X.length - min (64 * k) X.length)))), (0, u_ 1 (.slice (some ⟨bo, min (64 * k) X.length, none⟩) (X.length - min (64 * (k + 1)) X.length) (X.length + cz3 - min (64 * (k + 1)) X.length)))] 12 [] [] (⟨(min_ok (t := 3) (u := 3) (x := (.const (iN 64))) (y := (.tmp 24)) (k := .i64) (m := 64) (n := X.length - min (64 * k) X.length) (r := min 64 (X.length - min (64 * k) X.length)) (by kernel_rfl) rfl rfl rfl), by omega, by omega, by omega, (sl_eq rfl (by omega) (by omega)), fun _ _ FF13 MM13 => ?_⟩)
      have hd1 := lenAt_of (FF13.get 0 rfl)
      refine then_n ⟨⟨k + 1, min (64 * k) X.length, (fun _ => by omega), FF13.pick [0, 1, 2, 3], MM13⟩, ?_⟩
      rw [hc1, hd1]; omega
  · skip
    refine then_n (.inr ⟨(FF9.ev 0 rfl).trans (dec_f hlt), ?_⟩)
    refine then_n ?_
    refine wp_seq (rg_c FF9 MM9 [(1, l_ 1 (sB (maskN ks c ns X)))] 12 [] [] (⟨rfl, (mask_str hX (by omega)), fun _ _ FF14 MM14 => then_n ?_⟩))
    refine wp_ret ?_
    repeat first | refine then_ret ?_ | refine inb_ret ?_
    exact (ret_fr FF14 0 Tryz.results42 rfl ⟨rfl, MM14.below⟩)
end Go.Proofs.YtdjpacgjhcidpabGreatDoor
namespace Go.Proofs.YtdjpacgjhcidpabGreatDoor
open Go.RowKit
theorem en_Seal : Enters Tryz.prog 38 := fun args w => by simp [go_sem]
theorem en_Open : Enters Tryz.prog 19 := fun args w => by simp [go_sem]
theorem en_atag : Enters Tryz.prog 41 := fun args w => by simp [go_sem]
theorem en_missing : Enters Tryz.prog 65 := fun args w => by simp [go_sem]
theorem en_length : Enters Tryz.prog 66 := fun args w => by simp [go_sem]
theorem en_Mask : Enters Tryz.prog 42 := fun args w => by simp [go_sem]
theorem en_Block : Enters Tryz.prog 63 := fun args w => by simp [go_sem]
theorem en_Sum : Enters Tryz.prog 64 := fun args w => by simp [go_sem]
set_option maxRecDepth 100000 in
theorem missing_any (X : List Nat) (_hX : ∀ i, X.getD i 0 < 256) (w0 : World) :
    Calls Tryz.prog 65 #[sB X] w0 fun e w' => e = .returned (sB (missN X)) ∧ Below w0.heap.size w0 w' := by
  refine enter_fr Tryz.func65 rfl Tryz.ntmps65 (by simp) fun ac (FF : Fr 12 ac [(0, sB X)]) => ?_
  have MM := MemS.start w0
  refine wp_seq (rg_c FF MM [(0, t_ (sB []))] 3 [] [] (⟨(by kernel_rfl), fun _ _ FF1 MM1 => then_n ?_⟩))
  refine wp_seq (rg_c FF1 MM1 [(1, t_ (iN X.length))] 4 [] [0] (⟨(vI (bs_size _)), by decide, fun _ _ FF2 MM2 => then_n ?_⟩))
  refine wp_seq ?_
  refine wp_seq (rg_c FF2 MM2 [] 4 [8] [] (fun _ _ FF3 MM3 => then_n ?_))
  by_cases hs8 : (X.length % 16) = 0
  · refine wp_cond_true ((FF3.ev 0 rfl).trans (dec_t hs8)) ?_
    refine wp_seq (rg_c FF3 MM3 [(0, t_ (sB (missN X)))] 4 [] [] (⟨(Eq.trans (show _ = sB [] by kernel_rfl) (vS (by rw [missN, hs8]; rfl))), fun _ _ FF4 MM4 => then_n ?_⟩))
    refine wp_ret ?_
    repeat first | refine then_ret ?_ | refine inb_ret ?_
    exact (ret_fr FF4 0 Tryz.results65 rfl ⟨rfl, MM4.below⟩)
  · refine wp_cond_false ((FF3.ev 0 rfl).trans (dec_f hs8)) ?_
    refine wp_skip ?_
    refine then_n ?_
    refine wp_seq (rg_c FF3 MM3 [(2, t_ (sB (missN X)))] 4 [] [] (⟨by omega, by omega, (Nat.zero_le _), (by show _ ≤ 15; omega), (vS2 ((bs_extract _ _ _).trans (congrArg bs ((noughts_cut (by omega)).trans (by rw [missN, Nat.mod_eq_of_lt (show 16 - X.length % 16 < 16 by omega)]))))), fun _ _ FF5 MM5 => then_n ?_⟩))
    refine wp_ret ?_
    repeat first | refine then_ret ?_ | refine inb_ret ?_
    exact (ret_fr FF5 0 Tryz.results65 rfl ⟨rfl, MM5.below⟩)
set_option maxRecDepth 100000 in
theorem length_any (X : List Nat) (hl : X.length < 4611686018427387904) (w0 : World) :
    Calls Tryz.prog 66 #[sB X] w0 fun e w' => e = .returned (sB (leB 8 X.length)) ∧ Below w0.heap.size w0 w' := by
  refine enter_fr Tryz.func66 rfl Tryz.ntmps66 (by simp) fun ac (FF : Fr 20 ac [(0, sB X)]) => ?_
  have MM := MemS.start w0
  refine wp_seq (rg_c FF MM [(0, t_ (sB []))] 3 [] [] (⟨(by kernel_rfl), fun _ _ FF1 MM1 => then_n ?_⟩))
  refine wp_seq (rg_c FF1 MM1 [(0, s_ 0 (.cells (cn .u8 (List.replicate 8 0)) 161))] 4 [] [] (⟨(by kernel_rfl), fun bo => fun _ _ FF2 MM2 => then_n ?_⟩))
  have MMr4 : MemS _ _ _ [(bo, .cells (cn .u8 (genL 8 (fun i => X.length / 256 ^ i % 256) 0)) 161)] _ := MM2.eqA 0 rfl (by rw [← genL_zero 8 (fun i => X.length / 256 ^ i % 256)] <;> rfl)
  refine wp_seq ?_
  refine wp_seq (rg_c FF2 MMr4 [] 6 [] [] (fun _ _ FF3 MM3 => then_n ?_))
  refine wp_for (fun a' w' => ∃ j : Nat, j ≤ 8 ∧ Fr 20 a' [(5, iN j), (3, pT bo), (2, sB []), (0, sB X)] ∧ MemS (fun k => k < w0.heap.size) w0 w' [(bo, .cells (cn .u8 (genL 8 (fun i => X.length / 256 ^ i % 256) j)) 161)] []) (fun a' _ => (8 - cnt 5 a').toNat) ⟨0, by omega, FF3.pick [0, 1, 2, 3], MM3⟩ ?_
  rintro ac4 wd4 ⟨j, hj, FF4, MM4⟩
  have hcj := cnt_of (FF4.get 0 rfl)
  refine rg_c FF4 MM4 [] 7 [] [] (fun _ _ FF5 MM5 => ?_)
  by_cases hltj : j < 8
  · skip
    refine then_n (.inl ⟨(FF5.ev 0 rfl).trans (dec_t hltj), ?_⟩)
    refine wp_seq (rg_c FF5 MM5 [] 6 [] [] (fun _ _ FF6 MM6 => then_n ?_))
    refine rg_c FF6 MM6 [(2, t_ (iN X.length)), (0, w_ 1), (4, w_ 1), (0, s_ 0 (.cells (cn .u8 (genL 8 (fun i => X.length / 256 ^ i % 256) (j + 1))) 161))] 6 [] [] (⟨(vI (bs_size _)), by omega, by omega, (by show _ ≤ 64; omega), by omega, rfl, (by rw [cn_size, (genL_len _ _ _)]; omega), (.inl rfl), ((cn_set _ _ _ _).trans (congrArg _ (genL_step _ _ j (by omega) (by rw [Nat.pow_mul])))), fun _ _ FF7 MM7 => ?_⟩)
    refine inb_n (then_n ?_)
    refine rg_c FF7 MM7 [] 6 [] [] (⟨by omega, fun _ _ FF8 MM8 => ?_⟩)
    have hdj := cnt_of (FF8.get 0 rfl)
    refine then_n ⟨⟨j + 1, by omega, FF8.pick [0, 2, 3, 4], MM8⟩, ?_⟩
    rw [hcj, hdj]; omega
  · skip
    refine then_n (.inr ⟨(FF5.ev 0 rfl).trans (dec_f hltj), ?_⟩)
    obtain rfl : j = 8 := by omega
    have MMl : MemS _ _ _ [(bo, .cells (cn .u8 (leB 8 X.length)) 161)] _ := MM5.eqA 0 rfl (by rw [← gen_leB8 8 X.length] <;> rfl)
    refine then_n ?_
    refine wp_seq (rg_c FF5 MMl [(1, l_ 0 (sB (leB 8 X.length)))] 6 [] [] (⟨by decide, by decide, by decide, rfl, (str_all (leB_len _ _) (leB_lt 8 X.length)), fun _ _ FF9 MM9 => then_n ?_⟩))
    refine wp_ret ?_
    repeat first | refine then_ret ?_ | refine inb_ret ?_
    exact (ret_fr FF9 0 Tryz.results66 rfl ⟨rfl, MM9.below⟩)
theorem six_lt {A B C D E F : List Nat} (h1 : ∀ i, A.getD i 0 < 256) (h2 : ∀ i, B.getD i 0 < 256) (h3 : ∀ i, C.getD i 0 < 256) (h4 : ∀ i, D.getD i 0 < 256) (h5 : ∀ i, E.getD i 0 < 256) (h6 : ∀ i, F.getD i 0 < 256) : ∀ V ∈ [A, B, C, D, E, F], ∀ i, V.getD i 0 < 256 := fun V hV => by
  simp only [List.mem_cons, List.not_mem_nil, or_false] at hV
  rcases hV with rfl | rfl | rfl | rfl | rfl | rfl <;> assumption
theorem six_at (A B C D E F : List Nat) : ∀ j, j < [A, B, C, D, E, F].length → (#[sB A, sB B, sB C, sB D, sB E, sB F] : Array Value)[j]? = some (sB ([A, B, C, D, E, F].getD j [])) := fun j h => by
  have : j = 0 ∨ j = 1 ∨ j = 2 ∨ j = 3 ∨ j = 4 ∨ j = 5 := by simp at h; omega
  rcases this with rfl | rfl | rfl | rfl | rfl | rfl <;> rfl
set_option maxRecDepth 100000 in
theorem atag_any (K N : List Nat) (hK : Bytes 32 K) (hN : Bytes 12 N) (E C : List Nat) (hE : ∀ i, E.getD i 0 < 256) (hC : ∀ i, C.getD i 0 < 256) (hl : E.length < 4611686018427387904) (hl2 : C.length < 4611686018427387904) (w0 : World) :
    Calls Tryz.prog 41 #[.agg (cn .u8 K), .agg (cn .u8 N), sB E, sB C] w0 fun e w' => e = .returned (.agg (cn .u8 (tagA K N E C))) ∧ Below w0.heap.size w0 w' := by
  refine enter_fr Tryz.func41 rfl Tryz.ntmps41 (by simp) fun ac (FF : Fr 30 ac [(0, .agg (cn .u8 K)), (1, .agg (cn .u8 N)), (2, sB E), (3, sB C)]) => ?_
  have MM := MemS.start w0
  refine wp_seq (rg_c FF MM [(0, s_ 0 (.cells (cn .u8 K) 23)), (0, s_ 0 (.cells (cn .u8 N) 56)), (0, s_ 0 (.cells (cn .u8 (List.replicate 16 0)) 89))] 9 [] [0, 1] (⟨(by kernel_rfl), fun bk => ⟨(by kernel_rfl), fun bn => ⟨(by kernel_rfl), fun bt => fun _ _ FF1 MM1 => then_n ?_⟩⟩⟩))
  refine wp_seq (wp_region_list ?_)
  refine rp_c 4 FF1 MM1 [(0, b_ 2), (0, b_ 1), (0, t_ (sB (blockN K 0 N))), (0, t_ (sB (onceN K N)))] 4 [8, 13] [] (⟨rfl, ((cn_size _ _).trans hK.len), rfl, ((cn_size _ _).trans hN.len), (callP_of en_Block (Block_any K N 0 ⟨hK.len, hK.lt⟩ (by decide) ⟨hN.len, hN.lt⟩) _), (Nat.zero_le _), (by rw [bs_size, show (blockN K 0 N).length = 64 from (blockW_len _)]; omega), (vS2 ((bs_extract _ _ _).trans (congrArg bs (List.drop_zero ..)))), fun _ _ FF2 MM2 => ?_⟩)
  refine st_new [8, 2, 3, 14] FF2 MM2 (d := 14) (bytes_ok (e := 5) (x := (.tmp 13)) (by kernel_rfl) rfl (onceN_bytes K N).lt Tryz.underlying9 Tryz.underlying59 Tryz.underlying5) rfl rfl (by decide) fun ac4 wd4 bz cz3 FF4 MM4 => ?_
  refine rp_c 4 FF4 MM4 [(1, l_ 0 (.agg (cn .u8 (onceN K N)))), (0, s_ 0 (.cells (cn .u8 (List.replicate 32 0)) 23)), (0, b_ 0)] 9 [9] [] (⟨(by rw [(onceN_bytes K N).len]; decide), rfl, (part_rep _ _), ((cn_size _ _).trans (onceN_bytes K N).len), (by kernel_rfl), fun bo => ⟨rfl, ((cn_size _ _).trans (List.length_replicate ..)), ((cn_size _ _).trans (onceN_bytes K N).len), (cn_one _ _), rfl, fun _ _ FF5 MM5 => ?_⟩⟩)
  refine wpl_nil (then_n ?_)
  refine wp_seq (rg_draw FF5 MM5 [.inl (.agg (cn .u8 (onceN K N))), .inl (sB E), .inl (sB E), .inl (sB (missN E)), .inl (sB C), .inl (sB C), .inl (sB (missN C)), .inl (sB E), .inl (sB (leB 8 E.length)), .inl (sB C), .inl (sB (leB 8 C.length)), .inr (oC #[sB E, sB (missN E), sB C, sB (missN C), sB (leB 8 E.length), sB (leB 8 C.length)] 9, fun b => .slice (some ⟨b, 0, none⟩) 6 6), .inl (.agg (cn .u8 (tagA K N E C)))] [] [b_ 0, o_, o_, t_ (sB (missN E)), o_, o_, t_ (sB (missN C)), o_, t_ (sB (leB 8 E.length)), o_, t_ (sB (leB 8 C.length)), o_, u_ 1 (.agg (cn .u8 (tagA K N E C)))] [b_ 2] [9, 8] (fun nb => [bo = bo, (cn .u8 (onceN K N)).size = 32, CallP Tryz.prog 65 [sB E] [] (sB (missN E)), CallP Tryz.prog 65 [sB C] [] (sB (missN C)), CallP Tryz.prog 66 [sB E] [] (sB (leB 8 E.length)), CallP Tryz.prog 66 [sB C] [] (sB (leB 8 C.length)), CallP Tryz.prog 64 [.agg (cn .u8 (onceN K N)), .slice (some ⟨(nb 11), 0, none⟩) 6 6] [((nb 11), oC #[sB E, sB (missN E), sB C, sB (missN C), sB (leB 8 E.length), sB (leB 8 C.length)] 9), (bo, .cells (cn .u8 (onceN K N)) 23), (bz, .cells (cn .u8 ((onceN K N) ++ List.replicate cz3 0)) 5 ((onceN K N).length + cz3, (onceN K N).length + cz3 + 1)), (bt, .cells (cn .u8 (List.replicate 16 0)) 89), (bn, .cells (cn .u8 N) 56), (bk, .cells (cn .u8 K) 23)] (.agg (cn .u8 (tagA K N E C)))]) (fun nb Kt => bt = bt ∧ (cn .u8 (List.replicate 16 0)).size = 16 ∧ (cn .u8 (tagA K N E C)).size = 16 ∧ (cn .u8 (tagA K N E C)).all (·.oneCell') = true ∧ (0, 0).2 = 0 ∧ Kt [(9, pT bo), (8, pT bt)] [(bo, .cells (cn .u8 (onceN K N)) 23), (bz, .cells (cn .u8 ((onceN K N) ++ List.replicate cz3 0)) 5 ((onceN K N).length + cz3, (onceN K N).length + cz3 + 1)), (bt, .cells (cn .u8 (tagA K N E C)) 89), (bn, .cells (cn .u8 N) 56), (bk, .cells (cn .u8 K) 23)]) (by kernel_rfl) (by kernel_rfl) (by kernel_rfl) (fun _ => by kernel_rfl) (fun _ _ => by kernel_rfl) trivial (fun nb => ⟨rfl, ((cn_size _ _).trans (onceN_bytes K N).len), (callP_of en_missing (missing_any E hE) _), (callP_of en_missing (missing_any C hC) _), (callP_of en_length (length_any E (by omega)) _), (callP_of en_length (length_any C (by omega)) _), ⟨en_Sum, fun w H => by have h0 := sum_any _ (onceN_bytes K N) [E, missN E, C, missN C, leB 8 E.length, leB 8 C.length] (six_lt hE (missN_lt E) hC (missN_lt C) (leB_lt 8 _) (leB_lt 8 _)) (by simp) _ 6 _ _ _ (six_at _ _ _ _ _ _) w (H 0 _ rfl); rw [tagT_flat] at h0; exact h0⟩, trivial⟩) (fun nb => ⟨rfl, ((cn_size _ _).trans (List.length_replicate ..)), ((cn_size _ _).trans (tagA_len _ _ _ _)), (cn_one _ _), rfl, fun _ _ FF6 MM6 => then_n ?_⟩))
  refine wp_ret ?_
  repeat first | refine then_ret ?_ | refine inb_ret ?_
  exact (retc FF6 MM6 (k := 16) (i := 2) (j := 1) Tryz.results41 rfl rfl Tryz.underlying89 rfl (by kernel_rfl) ((cn_size _ _).trans (tagA_len _ _ _ _)) ⟨rfl, MM6.below⟩)
set_option maxRecDepth 100000 in
theorem seal_any (K N : List Nat) (hK : Bytes 32 K) (hN : Bytes 12 N) (E X : List Nat) (hE : ∀ i, E.getD i 0 < 256) (hX : ∀ i, X.getD i 0 < 256) (hl : E.length < 4611686018427387904) (hl2 : X.length < 4611686018427387904) (w0 : World) :
    Calls Tryz.prog 38 #[.agg (cn .u8 K), .agg (cn .u8 N), sB E, sB X] w0 fun e w' => e = .returned (sB (sealN K N E X)) ∧ Below w0.heap.size w0 w' := by
  refine enter_fr Tryz.func38 rfl Tryz.ntmps38 (by simp) fun ac (FF : Fr 24 ac [(0, .agg (cn .u8 K)), (1, .agg (cn .u8 N)), (2, sB E), (3, sB X)]) => ?_
  have MM := MemS.start w0
  refine wp_seq (rg_c FF MM [(0, s_ 0 (.cells (cn .u8 K) 23)), (0, s_ 0 (.cells (cn .u8 N) 56)), (0, t_ (sB []))] 9 [] [0, 1] (⟨(by kernel_rfl), fun bk => ⟨(by kernel_rfl), fun bn => ⟨(by kernel_rfl), fun _ _ FF1 MM1 => then_n ?_⟩⟩⟩))
  refine wp_seq (rg_c FF1 MM1 [(0, b_ 1), (0, b_ 0), (1, t_ (sB (maskN K 1 N X)))] 9 [9] [3] (⟨rfl, ((cn_size _ _).trans hK.len), rfl, ((cn_size _ _).trans hN.len), (callP_of en_Mask (Mask_any K N X 1 ⟨hK.len, hK.lt⟩ (by decide) ⟨hN.len, hN.lt⟩ hX) _), fun _ _ FF2 MM2 => then_n ?_⟩))
  refine wp_seq (rg_c FF2 MM2 [(0, b_ 1), (0, b_ 0), (2, t_ (.agg (cn .u8 (tagA K N E (maskN K 1 N X))))), (0, s_ 0 (.cells (cn .u8 (List.replicate 16 0)) 89)), (0, b_ 0)] 11 [] [2] (⟨rfl, ((cn_size _ _).trans hK.len), rfl, ((cn_size _ _).trans hN.len), (callP_of en_atag (atag_any K N ⟨hK.len, hK.lt⟩ ⟨hN.len, hN.lt⟩ E (maskN K 1 N X) hE (maskN_lt _ _ _ _ hX) (by omega) (by rw [maskN_len]; omega)) _), (by kernel_rfl), fun bt => ⟨rfl, ((cn_size _ _).trans (List.length_replicate ..)), ((cn_size _ _).trans (tagA_len _ _ _ _)), (cn_one _ _), rfl, fun _ _ FF3 MM3 => then_n ?_⟩⟩))
  refine wp_seq (rg_c FF3 MM3 [(2, l_ 0 (sB (tagA K N E (maskN K 1 N X)))), (0, t_ (sB (sealN K N E X)))] 11 [] [] (⟨by decide, by decide, by decide, rfl, (str_all (tagA_len _ _ _ _) (tagA_lt _ _ _ _)), (by rw [bs_size, bs_size, maskN_len, tagA_len]; omega), (vS2 (bs_app _ _)), fun _ _ FF4 MM4 => then_n ?_⟩))
  refine wp_ret ?_
  repeat first | refine then_ret ?_ | refine inb_ret ?_
  exact (ret_fr FF4 0 Tryz.results38 rfl ⟨rfl, MM4.below⟩)
set_option maxRecDepth 100000 in
theorem open_yes (K N : List Nat) (hK : Bytes 32 K) (hN : Bytes 12 N) (E Z : List Nat) (hE : ∀ i, E.getD i 0 < 256) (hZ : ∀ i, Z.getD i 0 < 256) (hl : E.length < 4611686018427387904) (hl2 : Z.length < 4611686018427387904) (h16 : 16 ≤ Z.length) (ho : opensN K N E Z) (w0 : World) :
    Calls Tryz.prog 19 #[.agg (cn .u8 K), .agg (cn .u8 N), sB E, sB Z] w0 fun e w' => e = .returned (.tuple #[sB (plainN K N Z), .bool true]) ∧ Below w0.heap.size w0 w' := by
  refine enter_fr Tryz.func19 rfl Tryz.ntmps19 (by simp) fun ac (FF : Fr 38 ac [(0, .agg (cn .u8 K)), (1, .agg (cn .u8 N)), (2, sB E), (3, sB Z)]) => ?_
  have MM := MemS.start w0
  refine wp_seq (rg_c FF MM [(0, s_ 0 (.cells (cn .u8 K) 23)), (0, s_ 0 (.cells (cn .u8 N) 56)), (0, t_ (sB []))] 9 [9] [0, 1] (⟨(by kernel_rfl), fun bk => ⟨(by kernel_rfl), fun bn => ⟨(by kernel_rfl), fun _ _ FF1 MM1 => then_n ?_⟩⟩⟩))
  refine wp_seq (rg_c FF1 MM1 [(1, t_ (iN Z.length))] 11 [] [] (⟨(vI (bs_size _)), by omega, by omega, fun _ _ FF2 MM2 => then_n ?_⟩))
  refine wp_seq ?_
  refine wp_seq (rg_c FF2 MM2 [(1, w_ 3)] 11 [17] [] (⟨by omega, fun _ _ FF3 MM3 => then_n ?_⟩))
  refine wp_cond_false (FF3.ev 0 rfl) ?_
  refine wp_skip ?_
  refine then_n ?_
  have hdl : (Z.drop (Z.length - 16)).length = 16 := by simp; omega
  refine wp_seq (rg_draw2 FF3 MM3 [.inl (sB Z), .inl (iN (Z.length - 16)), .inl (sB (Z.take (Z.length - 16))), .inl (sB Z), .inl (iN (Z.length - 16)), .inl (sB (Z.drop (Z.length - 16))), .inr (fun c => .cells (cn .u8 ((Z.drop (Z.length - 16)) ++ List.replicate c 0)) 5 ((Z.drop (Z.length - 16)).length + c, (Z.drop (Z.length - 16)).length + c + 1), fun b c => .slice (some ⟨b, 0, none⟩) ((Z.drop (Z.length - 16)).length) ((Z.drop (Z.length - 16)).length + c)), .inr (fun c => .cells (cn .u8 ((Z.drop (Z.length - 16)) ++ List.replicate c 0)) 5 ((Z.drop (Z.length - 16)).length + c, (Z.drop (Z.length - 16)).length + c + 1), fun b c => pT b), .inl (.agg (cn .u8 (Z.drop (Z.length - 16)))), .inr (fun _ => .cells (cn .u8 (List.replicate 16 0)) 89, fun b _ => pT b), .inl (sB (Z.take (Z.length - 16)))] [9] [o_, o_, t_ (sB (Z.take (Z.length - 16))), o_, o_, t_ (sB (Z.drop (Z.length - 16))), y_, g_ 6, l_ 0 (.agg (cn .u8 (Z.drop (Z.length - 16)))), o_, o_] [b_ 0] [10, 9, 8, 5, 4, 2, 3, 12, 11] (fun nb cp => [0 ≤ (Z.length - 16), (Z.length - 16) ≤ (bs Z).size, Value.string ((bs Z).extract 0 (Z.length - 16)) = sB (Z.take (Z.length - 16)), (Z.length - 16) ≤ (bs Z).size, 0 ≤ (bs Z).size, Value.string ((bs Z).extract (Z.length - 16) (bs Z).size) = sB (Z.drop (Z.length - 16)), RunB Tryz.prog [(23, sB (Z.drop (Z.length - 16))), (17, .bool false), (10, iN (Z.length - 16)), (9, .bool false), (8, sB []), (5, pT bn), (4, pT bk), (2, sB E), (3, sB Z)] [(bn, .cells (cn .u8 N) 56), (bk, .cells (cn .u8 K) 23)] (opAt Tryz.f19 4 6) (fun c => .cells (cn .u8 ((Z.drop (Z.length - 16)) ++ List.replicate c 0)) 5 ((Z.drop (Z.length - 16)).length + c, (Z.drop (Z.length - 16)).length + c + 1)) (fun b c => .slice (some ⟨b, 0, none⟩) ((Z.drop (Z.length - 16)).length) ((Z.drop (Z.length - 16)).length + c)), 16 ≤ (Z.drop (Z.length - 16)).length, pT (nb 6) = pT (nb 6), Obj.cells (cn .u8 ((Z.drop (Z.length - 16)) ++ List.replicate (cp 6) 0)) 5 ((Z.drop (Z.length - 16)).length + (cp 6), (Z.drop (Z.length - 16)).length + (cp 6) + 1) = .cells (cn .u8 ((Z.drop (Z.length - 16)) ++ List.replicate (cp 6) 0)) 5 ((Z.drop (Z.length - 16)).length + (cp 6), (Z.drop (Z.length - 16)).length + (cp 6) + 1), (nb 7) = (nb 7), PartAt (cn .u8 ((Z.drop (Z.length - 16)) ++ List.replicate (cp 7) 0)) 0 (cn .u8 (Z.drop (Z.length - 16))), (cn .u8 (Z.drop (Z.length - 16))).size = 16]) (fun nb cp Kt => (nb 9) = (nb 9) ∧ (cn .u8 (List.replicate 16 0)).size = 16 ∧ (cn .u8 (Z.drop (Z.length - 16))).size = 16 ∧ (cn .u8 (Z.drop (Z.length - 16))).all (·.oneCell') = true ∧ (0, 0).2 = 0 ∧ Kt [(11, sB (Z.take (Z.length - 16))), (12, pT (nb 9)), (10, iN (Z.length - 16)), (9, .bool false), (8, sB []), (5, pT bn), (4, pT bk), (2, sB E), (3, sB Z)] [((nb 9), .cells (cn .u8 (Z.drop (Z.length - 16))) 89), (bn, .cells (cn .u8 N) 56), (bk, .cells (cn .u8 K) 23)]) (by kernel_rfl) (by kernel_rfl) (by kernel_rfl) (fun _ _ => by kernel_rfl) (fun _ _ _ => by kernel_rfl) ⟨⟨_, rfl⟩, rfl, trivial⟩ (by kernel_rfl) (fun nb cp => ⟨(Nat.zero_le _), (by simp only [bs_size]; omega), (vS2 ((bs_extract _ _ _).trans (congrArg bs (List.drop_zero ..)))), (by simp only [bs_size]; omega), (Nat.zero_le _), (vS2 (bs_from _ _)), (bytes_ok (e := 5) (x := (.tmp 23)) (by kernel_rfl) rfl (drop_lt hZ) Tryz.underlying9 Tryz.underlying59 Tryz.underlying5), (by rw [hdl]; decide), rfl, rfl, rfl, (part_rep _ _), ((cn_size _ _).trans hdl), trivial⟩) (fun nb cp => ⟨rfl, ((cn_size _ _).trans (List.length_replicate ..)), ((cn_size _ _).trans hdl), (cn_one _ _), rfl, fun _ _ FF4 MM4 => then_n ?_⟩))
  generalize nb 9 = bt at *
  refine wp_seq ?_
  refine wp_seq (rg_dc 7 FF4 MM4 [(0, b_ 0), (0, b_ 2), (0, b_ 1), (2, t_ (.agg (cn .u8 (tagA K N E (Z.take (Z.length - 16)))))), (0, f_ (.bool false))] [] 13 [33] [2] (⟨rfl, ((cn_size _ _).trans hdl), rfl, ((cn_size _ _).trans hK.len), rfl, ((cn_size _ _).trans hN.len), (callP_of en_atag (atag_any K N ⟨hK.len, hK.lt⟩ ⟨hN.len, hN.lt⟩ E (Z.take (Z.length - 16)) hE (take_lt hZ) (by omega) (by rw [List.length_take]; omega)) _), (neqA_ok (t := 89) (t' := 89) (e := 5) (m := 16) (k := .u8) (x := (.tmp 27)) (y := (.tmp 32)) (by kernel_rfl) Tryz.underlying89 Tryz.underlying5 (by kernel_rfl) (by kernel_rfl) (by kernel_rfl) rfl rfl hdl (tagA_len _ _ _ _) (decide_eq_false (fun h => h ho.2))), fun _ _ FF5 MM5 => then_n ?_⟩))
  refine wp_cond_false (FF5.ev 0 rfl) ?_
  refine wp_skip ?_
  refine then_n ?_
  refine wp_seq (rg_c FF5 MM5 [(0, b_ 2), (0, b_ 1), (1, t_ (sB (maskN K 1 N (Z.take (Z.length - 16)))))] 13 [] [] (⟨rfl, ((cn_size _ _).trans hK.len), rfl, ((cn_size _ _).trans hN.len), (callP_of en_Mask (Mask_any K N (Z.take (Z.length - 16)) 1 ⟨hK.len, hK.lt⟩ (by decide) ⟨hN.len, hN.lt⟩ (take_lt hZ)) _), fun _ _ FF6 MM6 => then_n ?_⟩))
  refine wp_ret ?_
  repeat first | refine then_ret ?_ | refine inb_ret ?_
  exact (ret_tup2 FF6 1 0 Tryz.results19 rfl rfl ⟨rfl, MM6.below⟩)
end Go.Proofs.YtdjpacgjhcidpabGreatDoor
namespace Go.Proofs.YtdjpacgjhcidpabGreatDoor
open Go.RowKit
theorem en_pnew : Enters Tryz.prog 10 := fun args w => by simp [go_sem]
theorem en_pshared : Enters Tryz.prog 54 := fun args w => by simp [go_sem]
theorem en_pshare : Enters Tryz.prog 29 := fun args w => by simp [go_sem]
theorem en_pshareid : Enters Tryz.prog 30 := fun args w => by simp [go_sem]
theorem en_pKey : Enters Tryz.prog 55 := fun args w => by simp [go_sem]
theorem en_pID : Enters Tryz.prog 32 := fun args w => by simp [go_sem]
theorem en_pseal : Enters Tryz.prog 33 := fun args w => by simp [go_sem]
theorem en_popen : Enters Tryz.prog 36 := fun args w => by simp [go_sem]
theorem laidP : laidOutB Tryz.prog = true := Tryz.laidOut
theorem key_law : MKey Tryz.prog 23 (fun X => .agg (cn .u8 X)) (BytesK 32) := bytes_key (e := 5) (d := 204) laidP (by decide +kernel) (by decide +kernel) (by decide +kernel) (by decide +kernel) Tryz.underlying23 Tryz.underlying5 (by kernel_rfl) (by kernel_rfl)
theorem id_law : MKey Tryz.prog 32 (fun X => .agg (cn .u8 X)) (BytesK 16) := bytes_key (e := 5) (d := 204) laidP (by decide +kernel) (by decide +kernel) (by decide +kernel) (by decide +kernel) Tryz.underlying32 Tryz.underlying5 (by kernel_rfl) (by kernel_rfl)
abbrev boxV (x : BoxK) : Value := .agg (cn .u8 x.1 ++ cn .u8 x.2.1 ++ #[sB x.2.2])
abbrev noteV (X : List Nat) : Value := sB X
def OkQ (pn : Notes) : Prop := (∀ p ∈ pn, OkB p.1 ∧ (∀ i, p.2.getD i 0 < 256) ∧ p.2.length ≤ 1000000) ∧ Uniq pn
abbrev NM (l : Notes) : Obj := mapO boxV noteV l
theorem box_size {x : BoxK} (h : OkB x) : (cn .u8 x.1 ++ cn .u8 x.2.1 ++ #[sB x.2.2]).size = 45 := by
  simp only [Array.size_append, cn_size, h.1.1, h.2.1.1]
  rfl
theorem box_key {P : Program} {d k e a0 a1 a2 : Nat} {fs : Array Field} {f0 f1 f2 : Field} (hl : laidOutB P = true) (hs : P.types.size + 2 ≤ 10000) (hd : P.types.size = d + 2) (hr : k < P.types.size) (hk : P.keyType k = true) (ht : P.underlying k = some (.struct fs)) (hf : fs.toList = [f0, f1, f2]) (hn : P.cellsOf k = 45)
    (hb : fs.all (·.name != "_") = true) (o0 : f0.offset = 0) (o1 : f1.offset = 32) (o2 : f2.offset = 44) (t0 : f0.type = a0) (t1 : f1.type = a1) (t2 : f2.type = a2) (h0 : P.underlying a0 = some (.array 32 e)) (h1 : P.underlying a1 = some (.array 12 e)) (h2 : P.underlying a2 = some .string)
    (he : P.underlying e = some (.int .u8)) (c0 : P.cellsOf a0 = 32) (c1 : P.cellsOf a1 = 12) (c2 : P.cellsOf a2 = 1) (ce : P.cellsOf e = 1) : MKey P k boxV OkB where
  law := deep_law_gate hl hs hr hk (by rw [ht])
  lit x hx := by
    have hsz := box_size hx
    obtain ⟨K, N, B⟩ := x
    obtain ⟨hK, hN, hB, hBl⟩ := hx
    have hBl : B.length ≤ 1000000 := hBl
    have ec : (cn .u8 K ++ cn .u8 N ++ #[sB B]).toList = (cn .u8 K).toList ++ ((cn .u8 N).toList ++ [sB B]) := by simp
    have lK : (cn .u8 K).toList.length = 32 := by rw [Array.length_toList, cn_size]; exact hK.1
    have lN : (cn .u8 N).toList.length = 12 := by rw [Array.length_toList, cn_size]; exact hN.1
    obtain ⟨q0, e0⟩ := lits_bytes (d := d) h0 he ce c0 hK
    obtain ⟨q1, e1⟩ := lits_bytes (d := d) h1 he ce c1 hN
    obtain ⟨q2, e2⟩ := lits_str (d := d + 1) h2 (X := B) (by simp only [maxLen]; omega)
    have p0 : (((cn .u8 K).toList ++ ((cn .u8 N).toList ++ [sB B])).drop 0).take 32 = (cn .u8 K).toList := by rw [List.drop_zero, List.take_append_of_le_length (by omega), List.take_of_length_le (by omega)]
    have p1 : (((cn .u8 K).toList ++ ((cn .u8 N).toList ++ [sB B])).drop 32).take 12 = (cn .u8 N).toList := by rw [List.drop_append_of_le_length (by omega), List.drop_of_length_le (by omega), List.nil_append, List.take_append_of_le_length (by omega), List.take_of_length_le (by omega)]
    have p2 : (((cn .u8 K).toList ++ ((cn .u8 N).toList ++ [sB B])).drop 44).take 1 = [sB B] := by
      rw [show 44 = (cn .u8 K).toList.length + 12 by omega, ← List.drop_drop, List.drop_left, show 12 = (cn .u8 N).toList.length by omega, List.drop_left]
      rfl
    have hL : P.keyLits (d + 3) k (cn .u8 K ++ cn .u8 N ++ #[sB B]).toList = some [q0, q1, q2].flatten := by
      unfold Program.keyLits
      rw [ht]
      dsimp only
      rw [if_pos ⟨by rw [Array.length_toList, hsz, hn], by rw [← Array.all_toList] at hb ⊢; exact hb⟩, hf, ec]
      simp only [List.mapM_cons, List.mapM_nil, o0, o1, o2, t0, t1, t2, c0, c1, c2, p0, p1, p2, e0, e1, e2, Option.bind_eq_bind, Option.bind_some, Option.pure_def, Option.map_some]
    exact ⟨_, by simp only [keyOf, ht, hk, Value.formed, Value.cells, hsz, hn, hd, hL, BEq.rfl, Bool.and_self, if_true, Option.map_some]; rfl⟩
  inj x y hx hy h := by
    obtain ⟨K, N, B⟩ := x
    obtain ⟨K', N', B'⟩ := y
    obtain ⟨hK, hN, hB, hBl⟩ := hx
    obtain ⟨hK', hN', hB', hBl'⟩ := hy
    have e := Value.agg.inj h
    simp only at hK hN hB hK' hN' hB' e
    have l1 : K.length = 32 := hK.1
    have l2 : N.length = 12 := hN.1
    have cell : ∀ (K N B : List Nat), K.length = 32 → N.length = 12 → (∀ i, i < 32 → (cn .u8 K ++ cn .u8 N ++ #[sB B])[i]? = some (iB (K.getD i 0))) ∧ (∀ i, i < 12 → (cn .u8 K ++ cn .u8 N ++ #[sB B])[32 + i]? = some (iB (N.getD i 0))) ∧ (cn .u8 K ++ cn .u8 N ++ #[sB B])[44]? = some (sB B) := fun K N B hK hN => by
      have s1 : (cn .u8 K).size = 32 := by rw [cn_size, hK]
      have s2 : (cn .u8 K ++ cn .u8 N).size = 44 := by rw [Array.size_append, cn_size, cn_size, hK, hN]
      refine ⟨fun i hi => ?_, fun i hi => ?_, ?_⟩
      · rw [Array.getElem?_append_left (by omega), Array.getElem?_append_left (by omega), cn_get _ _ _ (by omega)]
      · rw [Array.getElem?_append_left (by omega), Array.getElem?_append_right (by omega), s1, Nat.add_sub_cancel_left, cn_get _ _ _ (by omega)]
      · rw [Array.getElem?_append_right (by omega), s2]
        rfl
    obtain ⟨a1, a2, a3⟩ := cell K N B hK.1 hN.1
    obtain ⟨b1, b2, b3⟩ := cell K' N' B' hK'.1 hN'.1
    rw [e] at a1 a2 a3
    have num : ∀ {x y : Nat}, some (Value.int .u8 (x : Int)) = some (.int .u8 (y : Int)) → x = y := fun h => Int.ofNat.inj (Value.int.inj (Option.some.inj h)).2
    have eK : K = K' := ext_getD (hK.1.trans hK'.1.symm) fun i hi => num ((a1 i (by omega)).symm.trans (b1 i (by omega)))
    have eN : N = N' := ext_getD (hN.1.trans hN'.1.symm) fun i hi => num ((a2 i (by omega)).symm.trans (b2 i (by omega)))
    have eB : B = B' := bs_inj hB hB' (Value.string.inj (Option.some.inj (a3.symm.trans b3)))
    rw [eK, eN, eB]
theorem box_law : MKey Tryz.prog 111 boxV OkB := box_key (e := 5) (d := 203) laidP (by decide +kernel) (by decide +kernel) (by decide +kernel) (by decide +kernel) Tryz.underlying111 rfl (by kernel_rfl) (by decide +kernel) rfl rfl rfl rfl rfl rfl Tryz.underlying23 Tryz.underlying56 Tryz.underlying9 Tryz.underlying5 (by kernel_rfl) (by kernel_rfl) (by kernel_rfl) (by kernel_rfl)
/-- What is shared, as the program keeps it; what is noted. -/
abbrev KM (l : Pairs) : Obj := mapO (fun X => .agg (cn .u8 X)) (fun X => .agg (cn .u8 X)) l
abbrev BB (i : Bool) (t : Value) (m1 m2 m3 f : Nat) : Obj := .cells #[.bool i, t, .map (some m1), .map (some m2), .map (some m3), iN f] 73
set_option maxRecDepth 100000 in
theorem pshared_any {b m1 m2 m3 : Nat} {i : Bool} {t : Value} {f : Nat} {ks : Pairs} {K : List Nat} (hk : OkP 32 ks) (hK : BytesK 32 K) (w0 : World) (H : Has w0 [(b, oC #[.bool i, t, .map (some m1), .map (some m2), .map (some m3), iN f] 73), (m1, KM ks)]) (hD : Distinct [(b, oC #[.bool i, t, .map (some m1), .map (some m2), .map (some m3), iN f] 73), (m1, KM ks)]) :
    Calls Tryz.prog 54 #[pT b, .agg (cn .u8 K)] w0 fun e w' => e = .returned (.bool (mget K ks).isSome) ∧ TurnB [] w0 w' := by
  refine enter_fr Tryz.func54 rfl Tryz.ntmps54 (by simp) fun ac (FF : Fr 19 ac [(0, pT b), (1, .agg (cn .u8 K))]) => ?_
  have MM : MemS (fun k => k < w0.heap.size ∧ ∀ x ∈ [(b, oC #[.bool i, t, .map (some m1), .map (some m2), .map (some m3), iN f] 73), (m1, KM ks)], x.1 ≠ k) w0 w0 [(b, oC #[.bool i, t, .map (some m1), .map (some m2), .map (some m3), iN f] 73), (m1, KM ks)] [] := MemS.startN H hD
  refine wp_seq (rg_c FF MM [(0, s_ 0 (.cells (cn .u8 K) 23))] 5 [] [1] (⟨(by kernel_rfl), fun bk => fun _ _ FF1 MM1 => then_n ?_⟩))
  refine wp_seq ?_
  refine wp_seq (rg_c FF1 MM1 [(1, f_ (.bool false))] 5 [8] [] (⟨(ptrSome_ok (t := 39) (t' := 39) (x := (.tmp 7)) (y := (.const (.pointer none))) (by kernel_rfl) rfl rfl Tryz.underlying39), fun _ _ FF2 MM2 => then_n ?_⟩))
  refine wp_cond_false (FF2.ev 0 rfl) ?_
  refine wp_skip ?_
  refine then_n ?_
  cases hg : mget K ks with
  | none =>
    refine wp_seq (rg_lay FF2 MM2 [lval (pT b), lval (pT b), lval (.pointer (some ⟨b, 2, none⟩)), lval (.map (some m1)), lval (.agg (cn .u8 K)), lval (.tuple #[.agg (cn .u8 (List.replicate 32 0)), .bool false]), lval (.tuple #[.agg (cn .u8 (List.replicate 32 0)), .bool false]), lval (.agg (cn .u8 (List.replicate 32 0))), lval (.bool false), lnew (.cells (cn .u8 (List.replicate 32 0)) 23) (fun b => pT b) (some (10, .cells (cn .u8 (List.replicate 32 0)) 23)), lsto 9, lval (.bool false)] [o_, o_, o_, l_ 1 (.map (some m1)), b_ 0, f_ (.tuple #[.agg (cn .u8 (List.replicate 32 0)), .bool false]), o_, o_, o_, o_, o_, o_] [4, 0, 6] [b = b, (#[.bool i, t, .map (some m1), .map (some m2), .map (some m3), iN f] : Array Value)[2]? = some (.map (some m1)), bk = bk, (cn .u8 K).size = 32, RunV Tryz.prog [(13, .map (some m1)), (14, .agg (cn .u8 K)), (8, .bool false), (4, .bool false), (3, pT bk), (0, pT b)] [(bk, .cells (cn .u8 K) 23), (b, oC #[.bool i, t, .map (some m1), .map (some m2), .map (some m3), iN f] 73), (m1, KM ks)] (opAt Tryz.f54 3 5) (.tuple #[.agg (cn .u8 (List.replicate 32 0)), .bool false])] (fun nb => [(6, .bool false), (4, .bool false), (0, pT b)]) (fun nb => [((nb 9), .cells (cn .u8 (List.replicate 32 0)) 23), (bk, .cells (cn .u8 K) 23), (b, oC #[.bool i, t, .map (some m1), .map (some m2), .map (some m3), iN f] 73), (m1, KM ks)]) (by kernel_rfl) (by kernel_rfl) (by kernel_rfl) (by kernel_rfl) (fun _ => by kernel_rfl) (fun _ => by kernel_rfl) ⟨(fun a w => ⟨rfl, by simp [execOp, go_sem, cn]⟩), ⟨⟨5, 16, 23, (cn .u8 (List.replicate 32 0)), (cn .u8 (List.replicate 32 0)), 7, rfl, rfl, rfl, by kernel_rfl, rfl, rfl, by kernel_rfl, rfl, rfl, ((cn_size _ _).trans (List.length_replicate ..)).trans (((cn_size _ _).trans (List.length_replicate ..))).symm, (cn_one _ _), (show _ = some 32 by kernel_rfl).trans (congrArg some (((cn_size _ _).trans (List.length_replicate ..))).symm)⟩, trivial⟩⟩ ⟨rfl, rfl, rfl, ((cn_size _ _).trans hK.1), (mapNo_ok (t := 69) (m := (.tmp 13)) (y := (.tmp 14)) (b := m1) (i := 2) (kf := (fun X => .agg (cn .u8 X))) (vf := (fun X => .agg (cn .u8 X))) (l := ks) (x := K) (c := true) (z := .agg (cn .u8 (List.replicate 32 0))) (by kernel_rfl) rfl rfl Tryz.underlying69 key_law (fun p hp => (hk.1 p hp).1) hk.2 hK rfl (by kernel_rfl) hg), trivial⟩ (fun nb ac3 wd3 FF3 MM3 => then_n ?_))
    generalize nb 9 = bo at *
    refine wp_seq (rg_c FF3 MM3 [] 5 [] [] (fun _ _ FF4 MM4 => then_n ?_))
    refine wp_ret ?_
    repeat first | refine then_ret ?_ | refine inb_ret ?_
    exact (ret_fr FF4 0 Tryz.results54 rfl ⟨rfl, MM4.turnB [] H (fun _ h => (nomatch h)) (List.forall_mem_cons.2 ⟨.inl (List.mem_of_getElem? (i := 2) rfl), (List.forall_mem_cons.2 ⟨.inl (List.mem_of_getElem? (i := 3) rfl), (fun _ h => (nomatch h))⟩)⟩)⟩)
  | some own =>
    refine wp_seq (rg_lay FF2 MM2 [lval (pT b), lval (pT b), lval (.pointer (some ⟨b, 2, none⟩)), lval (.map (some m1)), lval (.agg (cn .u8 K)), lval (.tuple #[.agg (cn .u8 own), .bool true]), lval (.tuple #[.agg (cn .u8 own), .bool true]), lval (.agg (cn .u8 own)), lval (.bool true), lnew (.cells (cn .u8 (List.replicate 32 0)) 23) (fun b => pT b) (some (10, .cells (cn .u8 own) 23)), lsto 9, lval (.bool true)] [o_, o_, o_, l_ 1 (.map (some m1)), b_ 0, f_ (.tuple #[.agg (cn .u8 own), .bool true]), o_, o_, o_, o_, o_, o_] [4, 0, 6] [b = b, (#[.bool i, t, .map (some m1), .map (some m2), .map (some m3), iN f] : Array Value)[2]? = some (.map (some m1)), bk = bk, (cn .u8 K).size = 32, RunV Tryz.prog [(13, .map (some m1)), (14, .agg (cn .u8 K)), (8, .bool false), (4, .bool false), (3, pT bk), (0, pT b)] [(bk, .cells (cn .u8 K) 23), (b, oC #[.bool i, t, .map (some m1), .map (some m2), .map (some m3), iN f] 73), (m1, KM ks)] (opAt Tryz.f54 3 5) (.tuple #[.agg (cn .u8 own), .bool true])] (fun nb => [(6, .bool true), (4, .bool false), (0, pT b)]) (fun nb => [((nb 9), .cells (cn .u8 own) 23), (bk, .cells (cn .u8 K) 23), (b, oC #[.bool i, t, .map (some m1), .map (some m2), .map (some m3), iN f] 73), (m1, KM ks)]) (by kernel_rfl) (by kernel_rfl) (by kernel_rfl) (by kernel_rfl) (fun _ => by kernel_rfl) (fun _ => by kernel_rfl) ⟨(fun a w => ⟨rfl, by simp [execOp, go_sem, cn]⟩), ⟨⟨5, 16, 23, (cn .u8 (List.replicate 32 0)), (cn .u8 own), 7, rfl, rfl, rfl, by kernel_rfl, rfl, rfl, by kernel_rfl, rfl, rfl, ((cn_size _ _).trans (List.length_replicate ..)).trans (((cn_size _ _).trans (hk.1 _ (mget_mem hg)).2.1)).symm, (cn_one _ _), (show _ = some 32 by kernel_rfl).trans (congrArg some (((cn_size _ _).trans (hk.1 _ (mget_mem hg)).2.1)).symm)⟩, trivial⟩⟩ ⟨rfl, rfl, rfl, ((cn_size _ _).trans hK.1), (mapYes_ok (t := 69) (m := (.tmp 13)) (y := (.tmp 14)) (b := m1) (i := 2) (kf := (fun X => .agg (cn .u8 X))) (vf := (fun X => .agg (cn .u8 X))) (l := ks) (x := K) (c := true) (v := own) (by kernel_rfl) rfl rfl Tryz.underlying69 key_law (fun p hp => (hk.1 p hp).1) hk.2 hK rfl hg), trivial⟩ (fun nb ac5 wd5 FF5 MM5 => then_n ?_))
    generalize nb 9 = bo at *
    refine wp_seq (rg_c FF5 MM5 [] 5 [] [] (fun _ _ FF6 MM6 => then_n ?_))
    refine wp_ret ?_
    repeat first | refine then_ret ?_ | refine inb_ret ?_
    exact (ret_fr FF6 0 Tryz.results54 rfl ⟨rfl, MM6.turnB [] H (fun _ h => (nomatch h)) (List.forall_mem_cons.2 ⟨.inl (List.mem_of_getElem? (i := 2) rfl), (List.forall_mem_cons.2 ⟨.inl (List.mem_of_getElem? (i := 3) rfl), (fun _ h => (nomatch h))⟩)⟩)⟩)
set_option maxRecDepth 100000 in
theorem pshared_nil (K : List Nat) (_hK : BytesK 32 K) (w0 : World) :
    Calls Tryz.prog 54 #[.pointer none, .agg (cn .u8 K)] w0 fun e w' => e = .returned (.bool false) ∧ Below w0.heap.size w0 w' := by
  refine enter_fr Tryz.func54 rfl Tryz.ntmps54 (by simp) fun ac (FF : Fr 19 ac [(0, .pointer none), (1, .agg (cn .u8 K))]) => ?_
  have MM := MemS.start w0
  refine wp_seq (rg_c FF MM [(0, s_ 0 (.cells (cn .u8 K) 23))] 5 [] [1] (⟨(by kernel_rfl), fun bk => fun _ _ FF1 MM1 => then_n ?_⟩))
  refine wp_seq ?_
  refine wp_seq (rg_c FF1 MM1 [(1, f_ (.bool true))] 5 [8] [] (⟨(ptrNil_ok (t := 39) (t' := 39) (x := (.tmp 7)) (y := (.const (.pointer none))) (by kernel_rfl) rfl rfl Tryz.underlying39), fun _ _ FF2 MM2 => then_n ?_⟩))
  refine wp_cond_true (FF2.ev 0 rfl) ?_
  refine wp_seq (rg_c FF2 MM2 [] 5 [] [] (fun _ _ FF3 MM3 => then_n ?_))
  refine wp_ret ?_
  repeat first | refine then_ret ?_ | refine inb_ret ?_
  exact (ret_fr FF3 0 Tryz.results54 rfl ⟨rfl, MM3.below⟩)
set_option maxRecDepth 100000 in
theorem pKey_any {b m1 m2 m3 : Nat} {i : Bool} {t : Value} {f : Nat} {ks : Pairs} {K : List Nat} (hk : OkP 32 ks) (hK : BytesK 32 K) (w0 : World) (H : Has w0 [(b, oC #[.bool i, t, .map (some m1), .map (some m2), .map (some m3), iN f] 73), (m1, KM ks)]) (hD : Distinct [(b, oC #[.bool i, t, .map (some m1), .map (some m2), .map (some m3), iN f] 73), (m1, KM ks)]) :
    Calls Tryz.prog 55 #[pT b, .agg (cn .u8 K)] w0 fun e w' => e = .returned (.agg (cn .u8 (ownN K ks))) ∧ TurnB [] w0 w' := by
  refine enter_fr Tryz.func55 rfl Tryz.ntmps55 (by simp) fun ac (FF : Fr 16 ac [(0, pT b), (1, .agg (cn .u8 K))]) => ?_
  have MM : MemS (fun k => k < w0.heap.size ∧ ∀ x ∈ [(b, oC #[.bool i, t, .map (some m1), .map (some m2), .map (some m3), iN f] 73), (m1, KM ks)], x.1 ≠ k) w0 w0 [(b, oC #[.bool i, t, .map (some m1), .map (some m2), .map (some m3), iN f] 73), (m1, KM ks)] [] := MemS.startN H hD
  refine wp_seq (rg_c FF MM [(0, s_ 0 (.cells (cn .u8 K) 23)), (0, s_ 0 (.cells (cn .u8 (List.replicate 32 0)) 23))] 5 [] [1] (⟨(by kernel_rfl), fun bk => ⟨(by kernel_rfl), fun br => fun _ _ FF1 MM1 => then_n ?_⟩⟩))
  refine wp_seq ?_
  cases hg : mget K ks with
  | none =>
    refine wp_seq (rg_c FF1 MM1 [(1, b_ 1), (0, u_ 1 (.bool false))] 5 [8] [] (⟨rfl, ((cn_size _ _).trans hK.1), (callP_B [2, 3] en_pshared rfl (fun w Hw => by have h0 := pshared_any hk hK w Hw (distinct_names rfl (distinct_at MM1.distinct (is := [2, 3]) rfl rfl)); rw [hg] at h0; exact h0)), fun _ _ FF2 MM2 => then_n ?_⟩))
    refine wp_cond_true (FF2.ev 0 rfl) ?_
    refine wp_seq (rg_c FF2 MM2 [(0, b_ 1), (0, b_ 0)] 5 [] [] (⟨rfl, ((cn_size _ _).trans hK.1), rfl, ((cn_size _ _).trans (List.length_replicate ..)), ((cn_size _ _).trans hK.1), (cn_one _ _), rfl, fun _ _ FF3 MM3 => then_n ?_⟩))
    refine wp_ret ?_
    repeat first | refine then_ret ?_ | refine inb_ret ?_
    exact (retc FF3 MM3 (k := 32) (i := 0) (j := 0) Tryz.results55 rfl rfl Tryz.underlying23 rfl (by kernel_rfl) ((cn_size _ _).trans hK.1) ⟨by rw [ownN, hg]; rfl, MM3.turnB [] H (fun _ h => (nomatch h)) (List.forall_mem_cons.2 ⟨.inl (List.mem_of_getElem? (i := 2) rfl), (List.forall_mem_cons.2 ⟨.inl (List.mem_of_getElem? (i := 3) rfl), (fun _ h => (nomatch h))⟩)⟩)⟩)
  | some own =>
    refine wp_seq (rg_c FF1 MM1 [(1, b_ 1), (0, u_ 1 (.bool true))] 5 [8] [] (⟨rfl, ((cn_size _ _).trans hK.1), (callP_B [2, 3] en_pshared rfl (fun w Hw => by have h0 := pshared_any hk hK w Hw (distinct_names rfl (distinct_at MM1.distinct (is := [2, 3]) rfl rfl)); rw [hg] at h0; exact h0)), fun _ _ FF4 MM4 => then_n ?_⟩))
    refine wp_cond_false (FF4.ev 0 rfl) ?_
    refine wp_skip ?_
    refine then_n ?_
    refine wp_seq (rg_dc 6 FF4 MM4 [(3, l_ 2 (.map (some m1))), (0, b_ 1), (0, f_ (.agg (cn .u8 own)))] [(0, b_ 0)] 5 [] [] (⟨rfl, rfl, rfl, ((cn_size _ _).trans hK.1), (mapYes_ok (t := 69) (m := (.tmp 13)) (y := (.tmp 14)) (b := m1) (i := 3) (kf := (fun X => .agg (cn .u8 X))) (vf := (fun X => .agg (cn .u8 X))) (l := ks) (x := K) (c := false) (v := own) (by kernel_rfl) rfl rfl Tryz.underlying69 key_law (fun p hp => (hk.1 p hp).1) hk.2 hK rfl hg), rfl, ((cn_size _ _).trans (List.length_replicate ..)), ((cn_size _ _).trans (hk.1 _ (mget_mem hg)).2.1), (cn_one _ _), rfl, fun _ _ FF5 MM5 => then_n ?_⟩))
    refine wp_ret ?_
    repeat first | refine then_ret ?_ | refine inb_ret ?_
    exact (retc FF5 MM5 (k := 32) (i := 0) (j := 0) Tryz.results55 rfl rfl Tryz.underlying23 rfl (by kernel_rfl) ((cn_size _ _).trans (hk.1 _ (mget_mem hg)).2.1) ⟨by rw [ownN, hg]; rfl, MM5.turnB [] H (fun _ h => (nomatch h)) (List.forall_mem_cons.2 ⟨.inl (List.mem_of_getElem? (i := 2) rfl), (List.forall_mem_cons.2 ⟨.inl (List.mem_of_getElem? (i := 3) rfl), (fun _ h => (nomatch h))⟩)⟩)⟩)
set_option maxRecDepth 100000 in
theorem pID_any {b m1 m2 m3 : Nat} {i : Bool} {t : Value} {f : Nat} {ks : Pairs} {K : List Nat} (hk : OkP 16 ks) (hK : BytesK 16 K) (w0 : World) (H : Has w0 [(b, oC #[.bool i, t, .map (some m1), .map (some m2), .map (some m3), iN f] 73), (m2, KM ks)]) (hD : Distinct [(b, oC #[.bool i, t, .map (some m1), .map (some m2), .map (some m3), iN f] 73), (m2, KM ks)]) :
    Calls Tryz.prog 32 #[pT b, .agg (cn .u8 K)] w0 fun e w' => e = .returned (.agg (cn .u8 (ownN K ks))) ∧ TurnB [] w0 w' := by
  refine enter_fr Tryz.func32 rfl Tryz.ntmps32 (by simp) fun ac (FF : Fr 22 ac [(0, pT b), (1, .agg (cn .u8 K))]) => ?_
  have MM : MemS (fun k => k < w0.heap.size ∧ ∀ x ∈ [(b, oC #[.bool i, t, .map (some m1), .map (some m2), .map (some m3), iN f] 73), (m2, KM ks)], x.1 ≠ k) w0 w0 [(b, oC #[.bool i, t, .map (some m1), .map (some m2), .map (some m3), iN f] 73), (m2, KM ks)] [] := MemS.startN H hD
  refine wp_seq (rg_c FF MM [(0, s_ 0 (.cells (cn .u8 K) 32)), (0, s_ 0 (.cells (cn .u8 (List.replicate 16 0)) 32))] 5 [] [1] (⟨(by kernel_rfl), fun bk => ⟨(by kernel_rfl), fun br => fun _ _ FF1 MM1 => then_n ?_⟩⟩))
  refine wp_seq ?_
  refine wp_seq (rg_c FF1 MM1 [(1, f_ (.bool false))] 5 [8] [] (⟨(ptrSome_ok (t := 39) (t' := 39) (x := (.tmp 7)) (y := (.const (.pointer none))) (by kernel_rfl) rfl rfl Tryz.underlying39), fun _ _ FF2 MM2 => then_n ?_⟩))
  refine wp_cond_false (FF2.ev 0 rfl) ?_
  refine wp_skip ?_
  refine then_n ?_
  refine wp_seq ?_
  cases hg : mget K ks with
  | none =>
    refine wp_seq (rg_lay FF2 MM2 [lval (pT b), lval (pT b), lval (.pointer (some ⟨b, 3, none⟩)), lval (.map (some m2)), lval (.agg (cn .u8 K)), lval (.tuple #[.agg (cn .u8 (List.replicate 16 0)), .bool false]), lval (.tuple #[.agg (cn .u8 (List.replicate 16 0)), .bool false]), lval (.agg (cn .u8 (List.replicate 16 0))), lval (.bool false), lnew (.cells (cn .u8 (List.replicate 16 0)) 32) (fun b => pT b) (some (10, .cells (cn .u8 (List.replicate 16 0)) 32)), lsto 9, lval (.bool false)] [o_, o_, o_, l_ 2 (.map (some m2)), b_ 1, f_ (.tuple #[.agg (cn .u8 (List.replicate 16 0)), .bool false]), o_, o_, o_, o_, o_, o_] [4, 3, 0, 5, 6] [b = b, (#[.bool i, t, .map (some m1), .map (some m2), .map (some m3), iN f] : Array Value)[3]? = some (.map (some m2)), bk = bk, (cn .u8 K).size = 16, RunV Tryz.prog [(14, .map (some m2)), (15, .agg (cn .u8 K)), (8, .bool false), (4, pT br), (3, pT bk), (0, pT b)] [(br, .cells (cn .u8 (List.replicate 16 0)) 32), (bk, .cells (cn .u8 K) 32), (b, oC #[.bool i, t, .map (some m1), .map (some m2), .map (some m3), iN f] 73), (m2, KM ks)] (opAt Tryz.f32 3 5) (.tuple #[.agg (cn .u8 (List.replicate 16 0)), .bool false])] (fun nb => [(6, .bool false), (5, pT (nb 9)), (4, pT br), (3, pT bk), (0, pT b)]) (fun nb => [((nb 9), .cells (cn .u8 (List.replicate 16 0)) 32), (br, .cells (cn .u8 (List.replicate 16 0)) 32), (bk, .cells (cn .u8 K) 32), (b, oC #[.bool i, t, .map (some m1), .map (some m2), .map (some m3), iN f] 73), (m2, KM ks)]) (by kernel_rfl) (by kernel_rfl) (by kernel_rfl) (by kernel_rfl) (fun _ => by kernel_rfl) (fun _ => by kernel_rfl) ⟨(fun a w => ⟨rfl, by simp [execOp, go_sem, cn]⟩), ⟨⟨5, 17, 32, (cn .u8 (List.replicate 16 0)), (cn .u8 (List.replicate 16 0)), 7, rfl, rfl, rfl, by kernel_rfl, rfl, rfl, by kernel_rfl, rfl, rfl, ((cn_size _ _).trans (List.length_replicate ..)).trans (((cn_size _ _).trans (List.length_replicate ..))).symm, (cn_one _ _), (show _ = some 16 by kernel_rfl).trans (congrArg some (((cn_size _ _).trans (List.length_replicate ..))).symm)⟩, trivial⟩⟩ ⟨rfl, rfl, rfl, ((cn_size _ _).trans hK.1), (mapNo_ok (t := 70) (m := (.tmp 14)) (y := (.tmp 15)) (b := m2) (i := 3) (kf := (fun X => .agg (cn .u8 X))) (vf := (fun X => .agg (cn .u8 X))) (l := ks) (x := K) (c := true) (z := .agg (cn .u8 (List.replicate 16 0))) (by kernel_rfl) rfl rfl Tryz.underlying70 id_law (fun p hp => (hk.1 p hp).1) hk.2 hK rfl (by kernel_rfl) hg), trivial⟩ (fun nb ac3 wd3 FF3 MM3 => then_n ?_))
    generalize nb 9 = bo at *
    refine wp_seq (rg_c FF3 MM3 [] 6 [19] [] (fun _ _ FF4 MM4 => then_n ?_))
    refine wp_cond_false (FF4.ev 0 rfl) ?_
    refine wp_skip ?_
    refine then_n ?_
    refine wp_seq (rg_c FF4 MM4 [(0, b_ 2), (0, b_ 1)] 6 [] [] (⟨rfl, ((cn_size _ _).trans hK.1), rfl, ((cn_size _ _).trans (List.length_replicate ..)), ((cn_size _ _).trans hK.1), (cn_one _ _), rfl, fun _ _ FF5 MM5 => then_n ?_⟩))
    refine wp_ret ?_
    repeat first | refine then_ret ?_ | refine inb_ret ?_
    exact (retc FF5 MM5 (k := 16) (i := 1) (j := 1) Tryz.results32 rfl rfl Tryz.underlying32 rfl (by kernel_rfl) ((cn_size _ _).trans hK.1) ⟨by rw [ownN, hg]; rfl, MM5.turnB [] H (fun _ h => (nomatch h)) (List.forall_mem_cons.2 ⟨.inl (List.mem_of_getElem? (i := 3) rfl), (List.forall_mem_cons.2 ⟨.inl (List.mem_of_getElem? (i := 4) rfl), (fun _ h => (nomatch h))⟩)⟩)⟩)
  | some own =>
    refine wp_seq (rg_lay FF2 MM2 [lval (pT b), lval (pT b), lval (.pointer (some ⟨b, 3, none⟩)), lval (.map (some m2)), lval (.agg (cn .u8 K)), lval (.tuple #[.agg (cn .u8 own), .bool true]), lval (.tuple #[.agg (cn .u8 own), .bool true]), lval (.agg (cn .u8 own)), lval (.bool true), lnew (.cells (cn .u8 (List.replicate 16 0)) 32) (fun b => pT b) (some (10, .cells (cn .u8 own) 32)), lsto 9, lval (.bool true)] [o_, o_, o_, l_ 2 (.map (some m2)), b_ 1, f_ (.tuple #[.agg (cn .u8 own), .bool true]), o_, o_, o_, o_, o_, o_] [4, 3, 0, 5, 6] [b = b, (#[.bool i, t, .map (some m1), .map (some m2), .map (some m3), iN f] : Array Value)[3]? = some (.map (some m2)), bk = bk, (cn .u8 K).size = 16, RunV Tryz.prog [(14, .map (some m2)), (15, .agg (cn .u8 K)), (8, .bool false), (4, pT br), (3, pT bk), (0, pT b)] [(br, .cells (cn .u8 (List.replicate 16 0)) 32), (bk, .cells (cn .u8 K) 32), (b, oC #[.bool i, t, .map (some m1), .map (some m2), .map (some m3), iN f] 73), (m2, KM ks)] (opAt Tryz.f32 3 5) (.tuple #[.agg (cn .u8 own), .bool true])] (fun nb => [(6, .bool true), (5, pT (nb 9)), (4, pT br), (3, pT bk), (0, pT b)]) (fun nb => [((nb 9), .cells (cn .u8 own) 32), (br, .cells (cn .u8 (List.replicate 16 0)) 32), (bk, .cells (cn .u8 K) 32), (b, oC #[.bool i, t, .map (some m1), .map (some m2), .map (some m3), iN f] 73), (m2, KM ks)]) (by kernel_rfl) (by kernel_rfl) (by kernel_rfl) (by kernel_rfl) (fun _ => by kernel_rfl) (fun _ => by kernel_rfl) ⟨(fun a w => ⟨rfl, by simp [execOp, go_sem, cn]⟩), ⟨⟨5, 17, 32, (cn .u8 (List.replicate 16 0)), (cn .u8 own), 7, rfl, rfl, rfl, by kernel_rfl, rfl, rfl, by kernel_rfl, rfl, rfl, ((cn_size _ _).trans (List.length_replicate ..)).trans (((cn_size _ _).trans (hk.1 _ (mget_mem hg)).2.1)).symm, (cn_one _ _), (show _ = some 16 by kernel_rfl).trans (congrArg some (((cn_size _ _).trans (hk.1 _ (mget_mem hg)).2.1)).symm)⟩, trivial⟩⟩ ⟨rfl, rfl, rfl, ((cn_size _ _).trans hK.1), (mapYes_ok (t := 70) (m := (.tmp 14)) (y := (.tmp 15)) (b := m2) (i := 3) (kf := (fun X => .agg (cn .u8 X))) (vf := (fun X => .agg (cn .u8 X))) (l := ks) (x := K) (c := true) (v := own) (by kernel_rfl) rfl rfl Tryz.underlying70 id_law (fun p hp => (hk.1 p hp).1) hk.2 hK rfl hg), trivial⟩ (fun nb ac6 wd6 FF6 MM6 => then_n ?_))
    generalize nb 9 = bo at *
    refine wp_seq (rg_c FF6 MM6 [] 6 [19] [] (fun _ _ FF7 MM7 => then_n ?_))
    refine wp_cond_true (FF7.ev 0 rfl) ?_
    refine wp_seq (rg_c FF7 MM7 [(0, b_ 0), (0, b_ 1)] 6 [] [] (⟨rfl, ((cn_size _ _).trans (hk.1 _ (mget_mem hg)).2.1), rfl, ((cn_size _ _).trans (List.length_replicate ..)), ((cn_size _ _).trans (hk.1 _ (mget_mem hg)).2.1), (cn_one _ _), rfl, fun _ _ FF8 MM8 => then_n ?_⟩))
    refine wp_ret ?_
    repeat first | refine then_ret ?_ | refine inb_ret ?_
    exact (retc FF8 MM8 (k := 16) (i := 1) (j := 1) Tryz.results32 rfl rfl Tryz.underlying32 rfl (by kernel_rfl) ((cn_size _ _).trans (hk.1 _ (mget_mem hg)).2.1) ⟨by rw [ownN, hg]; rfl, MM8.turnB [] H (fun _ h => (nomatch h)) (List.forall_mem_cons.2 ⟨.inl (List.mem_of_getElem? (i := 3) rfl), (List.forall_mem_cons.2 ⟨.inl (List.mem_of_getElem? (i := 4) rfl), (fun _ h => (nomatch h))⟩)⟩)⟩)
set_option maxRecDepth 100000 in
theorem pshare_real {b m1 m2 m3 : Nat} {f : Nat} {t_ : Value} {ks : Pairs} {K : List Nat} (hk : OkP 32 ks) (hK : BytesK 32 K) (w0 : World) (H : Has w0 [(b, oC #[.bool false, t_, .map (some m1), .map (some m2), .map (some m3), iN f] 73), (m1, KM ks)]) (hD : Distinct [(b, oC #[.bool false, t_, .map (some m1), .map (some m2), .map (some m3), iN f] 73), (m1, KM ks)]) :
    Calls Tryz.prog 29 #[pT b, .agg (cn .u8 K)] w0 fun e w' => e = .returned (.tuple #[]) ∧ TurnB [(m1, KM (shareK false 32 K ks []))] w0 w' := by
  refine enter_fr Tryz.func29 rfl Tryz.ntmps29 (by simp) fun ac (FF : Fr 31 ac [(0, pT b), (1, .agg (cn .u8 K))]) => ?_
  have MM : MemS (fun k => k < w0.heap.size ∧ ∀ x ∈ [(b, oC #[.bool false, t_, .map (some m1), .map (some m2), .map (some m3), iN f] 73), (m1, KM ks)], x.1 ≠ k) w0 w0 [(b, oC #[.bool false, t_, .map (some m1), .map (some m2), .map (some m3), iN f] 73), (m1, KM ks)] [] := MemS.startN H hD
  refine wp_seq (rg_c FF MM [(0, s_ 0 (.cells (cn .u8 K) 23))] 1 [3] [] (⟨(by kernel_rfl), fun bk => fun _ _ FF1 MM1 => then_n ?_⟩))
  refine wp_seq ?_
  cases hg : mget K ks with
  | none =>
    refine wp_seq (rg_c FF1 MM1 [(1, f_ (.bool false)), (2, b_ 0), (0, u_ 1 (.bool false))] 4 [10] [] (⟨(ptrSome_ok (t := 39) (t' := 39) (x := (.tmp 4)) (y := (.const (.pointer none))) (by kernel_rfl) rfl rfl Tryz.underlying39), rfl, ((cn_size _ _).trans hK.1), (callP_B [1, 2] en_pshared rfl (fun w Hw => by have h0 := pshared_any hk hK w Hw (distinct_names rfl (distinct_at MM1.distinct (is := [1, 2]) rfl rfl)); rw [hg] at h0; exact h0)), fun _ _ FF2 MM2 => then_n ?_⟩))
    refine wp_cond_false (FF2.ev 0 rfl) ?_
    refine wp_skip ?_
    refine then_n ?_
    refine wp_seq (rg_c FF2 MM2 [(3, l_ 1 (.bool false))] 4 [14] [] (⟨rfl, rfl, fun _ _ FF3 MM3 => then_n ?_⟩))
    refine wp_cond_false (FF3.ev 0 rfl) ?_
    refine rg_dc 6 FF3 MM3 [(3, l_ 1 (.map (some m1))), (0, b_ 0), (0, b_ 0)] [(0, r_ undef [(2, KM (ks ++ [(K, K)]))])] 4 [] [] (⟨rfl, rfl, rfl, ((cn_size _ _).trans hK.1), rfl, ((cn_size _ _).trans hK.1), (by rw [← mput_new _ hg]; exact (mapPut_ok (t := 69) (m := (.tmp 28)) (y := (.tmp 29)) (z := (.tmp 30)) (b := m1) (i := 2) (kf := (fun X => .agg (cn .u8 X))) (vf := (fun X => .agg (cn .u8 X))) (l := ks) (x := K) (v := K) (by kernel_rfl) rfl rfl rfl Tryz.underlying69 key_law (fun p hp => (hk.1 p hp).1) hk.2 hK rfl)), fun _ _ FF4 MM4 => ?_⟩)
    exact (end_none FF4 Tryz.results29 (by rw [(share_no hg _).1]; exact ⟨rfl, MM4.turnB [(m1, KM (ks ++ [(K, K)]))] H (List.forall_mem_cons.2 ⟨(List.mem_of_getElem? (i := 2) rfl), (fun _ h => (nomatch h))⟩) (List.forall_mem_cons.2 ⟨.inl (List.mem_of_getElem? (i := 1) rfl), (List.forall_mem_cons.2 ⟨.inr ⟨_, (List.mem_of_getElem? (i := 0) rfl), rfl⟩, (fun _ h => (nomatch h))⟩)⟩)⟩))
  | some own =>
    refine wp_seq (rg_c FF1 MM1 [(1, f_ (.bool false)), (2, b_ 0), (0, u_ 1 (.bool true))] 4 [10] [] (⟨(ptrSome_ok (t := 39) (t' := 39) (x := (.tmp 4)) (y := (.const (.pointer none))) (by kernel_rfl) rfl rfl Tryz.underlying39), rfl, ((cn_size _ _).trans hK.1), (callP_B [1, 2] en_pshared rfl (fun w Hw => by have h0 := pshared_any hk hK w Hw (distinct_names rfl (distinct_at MM1.distinct (is := [1, 2]) rfl rfl)); rw [hg] at h0; exact h0)), fun _ _ FF5 MM5 => then_n ?_⟩))
    refine wp_cond_true (FF5.ev 0 rfl) ?_
    refine wp_ret ?_
    repeat first | refine then_ret ?_ | refine inb_ret ?_
    exact (ret_none FF5 Tryz.results29 (by rw [(share_yes hg _).1]; exact ⟨rfl, MM5.turnB [(m1, KM ks)] H (List.forall_mem_cons.2 ⟨(List.mem_of_getElem? (i := 2) rfl), (fun _ h => (nomatch h))⟩) (List.forall_mem_cons.2 ⟨.inl (List.mem_of_getElem? (i := 1) rfl), (List.forall_mem_cons.2 ⟨.inr ⟨_, (List.mem_of_getElem? (i := 0) rfl), rfl⟩, (fun _ h => (nomatch h))⟩)⟩)⟩))
set_option maxRecDepth 100000 in
theorem pshareid_real {b m1 m2 m3 : Nat} {f : Nat} {t_ : Value} {K : List Nat} (_hK : BytesK 16 K) (w0 : World) (H : Has w0 [(b, oC #[.bool false, t_, .map (some m1), .map (some m2), .map (some m3), iN f] 73)]) (hD : Distinct [(b, oC #[.bool false, t_, .map (some m1), .map (some m2), .map (some m3), iN f] 73)]) :
    Calls Tryz.prog 30 #[pT b, .agg (cn .u8 K)] w0 fun e w' => e = .returned (.tuple #[]) ∧ TurnB [] w0 w' := by
  refine enter_fr Tryz.func30 rfl Tryz.ntmps30 (by simp) fun ac (FF : Fr 36 ac [(0, pT b), (1, .agg (cn .u8 K))]) => ?_
  have MM : MemS (fun k => k < w0.heap.size ∧ ∀ x ∈ [(b, oC #[.bool false, t_, .map (some m1), .map (some m2), .map (some m3), iN f] 73)], x.1 ≠ k) w0 w0 [(b, oC #[.bool false, t_, .map (some m1), .map (some m2), .map (some m3), iN f] 73)] [] := MemS.startN H hD
  refine wp_seq (rg_c FF MM [(0, s_ 0 (.cells (cn .u8 K) 32))] 1 [3] [] (⟨(by kernel_rfl), fun bk => fun _ _ FF1 MM1 => then_n ?_⟩))
  refine wp_seq ?_
  refine wp_seq (rg_c FF1 MM1 [(1, f_ (.bool false)), (4, l_ 1 (.bool false))] 4 [14] [] (⟨(ptrSome_ok (t := 39) (t' := 39) (x := (.tmp 6)) (y := (.const (.pointer none))) (by kernel_rfl) rfl rfl Tryz.underlying39), rfl, rfl, fun _ _ FF2 MM2 => then_n ?_⟩))
  refine wp_cond_true (FF2.ev 0 rfl) ?_
  refine wp_ret ?_
  repeat first | refine then_ret ?_ | refine inb_ret ?_
  exact (ret_none FF2 Tryz.results30 ⟨rfl, MM2.turnB [] H (fun _ h => (nomatch h)) (List.forall_mem_cons.2 ⟨.inl (List.mem_of_getElem? (i := 1) rfl), (fun _ h => (nomatch h))⟩)⟩)
end Go.Proofs.YtdjpacgjhcidpabGreatDoor
namespace Go.Proofs.YtdjpacgjhcidpabGreatDoor
open Go.RowKit
theorem en_lclone : Enters Tryz.prog 56 := fun args w => by simp [go_sem]
theorem en_clone : Enters Tryz.prog 35 := fun args w => by simp [go_sem]
theorem en_repeat : Enters Tryz.prog 39 := fun args w => by simp [go_sem]
def renR : Go.Shelf.Ren := ⟨fun | 99 => 58 | 105 => 39 | 165 => 59 | 166 => 60 | 169 => 62 | 170 => 61 | 206 => 80 | 212 => 57 | 240 => 81 | 241 => 82 | 263 => 78 | 264 => 79 | 276 => 102 | 277 => 103 | n => n, fun | 0 => 0 | 3 => 3 | 4 => 4 | 5 => 5 | 9 => 9 | 20 => 20 | 37 => 59 | 46 => 112 | 51 => 58 | 53 => 24 | 70 => 116 | 72 => 118 | 75 => 121 | 76 => 122 | 80 => 124 | 109 => 113 | 127 => 142 | 146 => 143 | 148 => 145 | 164 => 176 | n => n, fun | n => n⟩
theorem layR : Go.Proofs.Lays.n105 Tryz.prog renR := {
  mixed := by kernel_rfl
  f99 := Tryz.func58.trans (congrArg some (by kernel_rfl))
  f105 := Tryz.func39.trans (congrArg some (by kernel_rfl))
  f165 := Tryz.func59.trans (congrArg some (by kernel_rfl))
  f166 := Tryz.func60.trans (congrArg some (by kernel_rfl))
  f169 := Tryz.func62.trans (congrArg some (by kernel_rfl))
  f170 := Tryz.func61.trans (congrArg some (by kernel_rfl))
  f206 := Tryz.func80.trans (congrArg some (by kernel_rfl))
  f212 := Tryz.func57.trans (congrArg some (by kernel_rfl))
  f240 := Tryz.func81.trans (congrArg some (by kernel_rfl))
  f241 := Tryz.func82.trans (congrArg some (by kernel_rfl))
  f263 := Tryz.func78.trans (congrArg some (by kernel_rfl))
  f264 := Tryz.func79.trans (congrArg some (by kernel_rfl))
  f276 := Tryz.func102.trans (congrArg some (by kernel_rfl))
  f277 := Tryz.func103.trans (congrArg some (by kernel_rfl))
  t0 := Tryz.underlying0
  a0 := Tryz.isAgg0
  z0 := Tryz.sizeOf0
  v0 := Tryz.zeroValue0
  t3 := Tryz.underlying3
  a3 := Tryz.isAgg3
  z3 := Tryz.sizeOf3
  v3 := Tryz.zeroValue3
  t4 := Tryz.underlying4
  a4 := Tryz.isAgg4
  z4 := Tryz.sizeOf4
  v4 := Tryz.zeroValue4
  t5 := Tryz.underlying5
  a5 := Tryz.isAgg5
  z5 := Tryz.sizeOf5
  v5 := Tryz.zeroValue5
  t9 := Tryz.underlying9
  a9 := Tryz.isAgg9
  z9 := Tryz.sizeOf9
  v9 := Tryz.zeroValue9
  t20 := Tryz.underlying20
  a20 := Tryz.isAgg20
  z20 := Tryz.sizeOf20
  v20 := Tryz.zeroValue20
  t37 := Tryz.underlying59
  a37 := Tryz.isAgg59
  z37 := Tryz.sizeOf59
  v37 := Tryz.zeroValue59
  t46 := Tryz.underlying112
  a46 := Tryz.isAgg112
  z46 := Tryz.sizeOf112
  v46 := Tryz.zeroValue112
  t51 := Tryz.underlying58
  a51 := Tryz.isAgg58
  z51 := Tryz.sizeOf58
  v51 := Tryz.zeroValue58
  t53 := Tryz.underlying24
  a53 := Tryz.isAgg24
  z53 := Tryz.sizeOf24
  v53 := Tryz.zeroValue24
  t70 := Tryz.underlying116
  a70 := Tryz.isAgg116
  z70 := Tryz.sizeOf116
  v70 := Tryz.zeroValue116
  t72 := Tryz.underlying118
  a72 := Tryz.isAgg118
  z72 := Tryz.sizeOf118
  v72 := Tryz.zeroValue118
  t75 := Tryz.underlying121
  a75 := Tryz.isAgg121
  z75 := Tryz.sizeOf121
  v75 := Tryz.zeroValue121
  t76 := Tryz.underlying122
  a76 := Tryz.isAgg122
  z76 := Tryz.sizeOf122
  v76 := Tryz.zeroValue122
  t109 := Tryz.underlying113
  a109 := Tryz.isAgg113
  z109 := Tryz.sizeOf113
  v109 := Tryz.zeroValue113
  t127 := Tryz.underlying142
  a127 := Tryz.isAgg142
  z127 := Tryz.sizeOf142
  v127 := Tryz.zeroValue142
  t146 := Tryz.underlying143
  a146 := Tryz.isAgg143
  z146 := Tryz.sizeOf143
  v146 := Tryz.zeroValue143
  t148 := Tryz.underlying145
  a148 := Tryz.isAgg145
  z148 := Tryz.sizeOf145
  v148 := Tryz.zeroValue145
  t164 := Tryz.underlying176
  a164 := Tryz.isAgg176
  z164 := Tryz.sizeOf176
  v164 := Tryz.zeroValue176 }
theorem extraR : Go.Proofs.Builder.Extra Tryz.prog renR := {
  sizeBuilder := by kernel_rfl
  liesBuilder := by kernel_rfl
  t5 := Tryz.underlying5
  a5 := Tryz.isAgg5
  z5 := Tryz.sizeOf5
  v5 := Tryz.zeroValue5
  infoByte := by kernel_rfl
  cellsByte := by kernel_rfl
  sizeByte := by kernel_rfl
  neB5 := by decide }
theorem repL_bs : ∀ k : Nat, Go.Lib.repeatL (bs [0]).data.toList k = (List.replicate k 0).map (UInt8.ofNat ·)
  | 0 => rfl
  | k + 1 => by
    rw [Go.Lib.repeatL, repL_bs k, List.replicate_succ, List.map_cons]
    rfl
theorem repeat0_any (k : Nat) (hk : k ≤ 100000000) (w : World) : Calls Tryz.prog 39 #[sB [0], iN k] w fun e w' => e = .returned (sB (List.replicate k 0)) ∧ Below w.heap.size w w' := by
  have h0 := Go.Proofs.Any.strings_Repeat layR extraR (bs [0]) k w (by omega) (by rw [bs_size, List.length_singleton]; omega)
  rw [repL_bs] at h0
  exact h0
set_option maxRecDepth 100000 in
theorem lclone_any (X : List Nat) (hX : ∀ i, X.getD i 0 < 256) (hl : X.length ≤ 1000000) (w0 : World) :
    Calls Tryz.prog 56 #[sB X] w0 fun e w' => e = .returned (sB X) ∧ Below w0.heap.size w0 w' := by
  refine enter_fr Tryz.func56 rfl Tryz.ntmps56 (by simp) fun ac (FF : Fr 18 ac [(0, sB X)]) => ?_
  have MM := MemS.start w0
  refine wp_seq (rg_c FF MM [(0, t_ (sB []))] 3 [] [] (⟨(by kernel_rfl), fun _ _ FF1 MM1 => then_n ?_⟩))
  refine wp_seq ?_
  refine wp_seq (rg_c FF1 MM1 [(1, t_ (iN X.length))] 3 [6] [] (⟨(vI (bs_size _)), fun _ _ FF2 MM2 => then_n ?_⟩))
  by_cases hs6 : X.length = 0
  · refine wp_cond_true ((FF2.ev 0 rfl).trans (dec_t hs6)) ?_
    obtain rfl : X = [] := List.eq_nil_of_length_eq_zero hs6
    refine wp_seq (rg_c FF2 MM2 [(0, t_ (sB []))] 3 [] [] (⟨(by kernel_rfl), fun _ _ FF3 MM3 => then_n ?_⟩))
    refine wp_ret ?_
    repeat first | refine then_ret ?_ | refine inb_ret ?_
    exact (ret_fr FF3 0 Tryz.results56 rfl ⟨rfl, MM3.below⟩)
  · refine wp_cond_false ((FF2.ev 0 rfl).trans (dec_f hs6)) ?_
    refine wp_skip ?_
    refine then_n ?_
    refine wp_seq (rg_c FF2 MM2 [(1, t_ (iN X.length)), (0, n_ (.slice none X.length X.length) (.cells (cn .u8 (List.replicate X.length 0)) 5))] 4 [] [] (⟨(vI (bs_size _)), (make_ok (t := 59) (e := 5) (p := (.tmp 8)) (q := (.tmp 8)) (by kernel_rfl) rfl rfl Tryz.underlying59 (by kernel_rfl) (by omega)), fun bl => fun _ _ FF4 MM4 => then_n ?_⟩))
    refine wp_seq (rg_c FF4 MM4 [(2, r_ (iN (min X.length X.length)) [(0, .cells (cn .u8 X) 5)])] 4 [] [] (⟨(copyStr_ok (p := .tmp 10) (q := .tmp 11) (t := 59) (tq := 9) (e := 5) (T := 5) (off := 0) (len := X.length) (X := X) (cs := cn .u8 (List.replicate X.length 0)) (i := 0) (by kernel_rfl) rfl rfl hX Tryz.underlying59 (by kernel_rfl) rfl (by rw [cn_size, List.length_replicate, Nat.zero_add]; exact Nat.le_refl _) (by rw [List.take_length]; exact setFrom_new8 (by rw [List.length_replicate]))), fun _ _ FF5 MM5 => then_n ?_⟩))
    refine wp_seq (rg_c FF5 MM5 [(1, w_ 1), (2, r_ (sB X) [(0, .cells (cn .u8 X) 5 (0, X.length))])] 4 [] [] (⟨by omega, (usRow_ok (t := 142) (u := 3) (e := 5) (i := 0) (x := .tmp 14) (y := .tmp 16) (by kernel_rfl) rfl rfl Tryz.underlying142 (by kernel_rfl) rfl (by omega) hX (by rw [cn_size]; exact Nat.le_refl _) (by omega) (fun j hj => cn_get _ _ _ hj)), fun _ _ FF6 MM6 => then_n ?_⟩))
    refine wp_ret ?_
    repeat first | refine then_ret ?_ | refine inb_ret ?_
    exact (ret_fr FF6 0 Tryz.results56 rfl ⟨rfl, MM6.below⟩)
set_option maxRecDepth 100000 in
theorem clone_any (X : List Nat) (hX : ∀ i, X.getD i 0 < 256) (hl : X.length ≤ 1000000) (w0 : World) :
    Calls Tryz.prog 35 #[sB X] w0 fun e w' => e = .returned (sB X) ∧ Below w0.heap.size w0 w' := by
  refine enter_fr Tryz.func35 rfl Tryz.ntmps35 (by simp) fun ac (FF : Fr 5 ac [(0, sB X)]) => ?_
  have MM := MemS.start w0
  refine wp_seq (rg_c FF MM [(0, t_ (sB []))] 3 [] [] (⟨(by kernel_rfl), fun _ _ FF1 MM1 => then_n ?_⟩))
  refine wp_seq (rg_c FF1 MM1 [(1, t_ (sB X))] 0 [2] [] (⟨(callP_of en_lclone (lclone_any X hX hl) _), fun _ _ FF2 MM2 => then_n ?_⟩))
  refine wp_ret ?_
  repeat first | refine then_ret ?_ | refine inb_ret ?_
  exact (ret_fr FF2 0 Tryz.results35 rfl ⟨rfl, MM2.below⟩)
set_option maxRecDepth 100000 in
theorem pseal_any {b m1 m2 m3 : Nat} {i : Bool} {t : Value} {f : Nat} {ks : Pairs} {K : List Nat} (hk : OkP 32 ks) (hK : BytesK 32 K) {pn : Notes} (hp_ : OkQ pn) {N Y : List Nat} (hN : BytesK 12 N) (hY : ∀ i, Y.getD i 0 < 256) (hYl : Y.length ≤ 900000) (hO : i = false → ∀ own, mget K ks = some own → own = K) (w0 : World) (H : Has w0 [(b, oC #[.bool i, t, .map (some m1), .map (some m2), .map (some m3), iN f] 73), (m1, KM ks), (m3, NM pn)]) (hD : Distinct [(b, oC #[.bool i, t, .map (some m1), .map (some m2), .map (some m3), iN f] 73), (m1, KM ks), (m3, NM pn)]) :
    Calls Tryz.prog 33 #[pT b, .agg (cn .u8 K), .agg (cn .u8 N), sB Y] w0 fun e w' => e = .returned (sB (boxN i K N ks Y)) ∧ TurnB [(m3, NM (noteP i K N ks Y pn))] w0 w' := by
  refine enter_fr Tryz.func33 rfl Tryz.ntmps33 (by simp) fun ac (FF : Fr 44 ac [(0, pT b), (1, .agg (cn .u8 K)), (2, .agg (cn .u8 N)), (3, sB Y)]) => ?_
  have MM : MemS (fun k => k < w0.heap.size ∧ ∀ x ∈ [(b, oC #[.bool i, t, .map (some m1), .map (some m2), .map (some m3), iN f] 73), (m1, KM ks), (m3, NM pn)], x.1 ≠ k) w0 w0 [(b, oC #[.bool i, t, .map (some m1), .map (some m2), .map (some m3), iN f] 73), (m1, KM ks), (m3, NM pn)] [] := MemS.startN H hD
  refine wp_seq (rg_c FF MM [(0, s_ 0 (.cells (cn .u8 K) 23)), (0, s_ 0 (.cells (cn .u8 N) 56)), (0, t_ (sB []))] 9 [] [1, 2] (⟨(by kernel_rfl), fun bk => ⟨(by kernel_rfl), fun bn => ⟨(by kernel_rfl), fun _ _ FF1 MM1 => then_n ?_⟩⟩⟩))
  refine wp_seq ?_
  cases hg : mget K ks with
  | none =>
    refine wp_seq (rg_c FF1 MM1 [(1, b_ 1), (0, u_ 1 (.bool false))] 9 [14] [] (⟨rfl, ((cn_size _ _).trans hK.1), (callP_B [2, 3] en_pshared rfl (fun w Hw => by have h0 := pshared_any hk hK w Hw (distinct_names rfl (distinct_at MM1.distinct (is := [2, 3]) rfl rfl)); rw [hg] at h0; exact h0)), fun _ _ FF2 MM2 => then_n ?_⟩))
    refine wp_cond_true (FF2.ev 0 rfl) ?_
    refine wp_seq (rg_c FF2 MM2 [(0, b_ 1), (0, b_ 0), (1, t_ (sB (sealN K N [] Y)))] 9 [] [] (⟨rfl, ((cn_size _ _).trans hK.1), rfl, ((cn_size _ _).trans hN.1), (callP_of en_Seal (seal_any K N ⟨hK.1, hK.2⟩ ⟨hN.1, hN.2⟩ [] Y (lit_lt (by kernel_rfl)) hY (by decide) (by omega)) _), fun _ _ FF3 MM3 => then_n ?_⟩))
    refine wp_ret ?_
    repeat first | refine then_ret ?_ | refine inb_ret ?_
    exact (ret_fr FF3 0 Tryz.results33 rfl (by rw [box_no hg, noteP_no hg]; exact ⟨rfl, MM3.turnB [(m3, NM pn)] H (List.forall_mem_cons.2 ⟨(List.mem_of_getElem? (i := 4) rfl), (fun _ h => (nomatch h))⟩) (List.forall_mem_cons.2 ⟨.inl (List.mem_of_getElem? (i := 2) rfl), (List.forall_mem_cons.2 ⟨.inl (List.mem_of_getElem? (i := 3) rfl), (List.forall_mem_cons.2 ⟨.inr ⟨_, (List.mem_of_getElem? (i := 0) rfl), rfl⟩, (fun _ h => (nomatch h))⟩)⟩)⟩)⟩))
  | some own =>
    refine wp_seq (rg_c FF1 MM1 [(1, b_ 1), (0, u_ 1 (.bool true))] 9 [14] [] (⟨rfl, ((cn_size _ _).trans hK.1), (callP_B [2, 3] en_pshared rfl (fun w Hw => by have h0 := pshared_any hk hK w Hw (distinct_names rfl (distinct_at MM1.distinct (is := [2, 3]) rfl rfl)); rw [hg] at h0; exact h0)), fun _ _ FF4 MM4 => then_n ?_⟩))
    refine wp_cond_false (FF4.ev 0 rfl) ?_
    refine wp_skip ?_
    refine then_n ?_
    refine wp_seq (rg_c FF4 MM4 [] 9 [9] [] (fun _ _ FF5 MM5 => then_n ?_))
    refine wp_seq ?_
    cases i with
    | false =>
      refine wp_seq (rg_c FF5 MM5 [(3, l_ 2 (.bool false))] 10 [23] [] (⟨rfl, rfl, fun _ _ FF6 MM6 => then_n ?_⟩))
      refine wp_cond_false (FF6.ev 0 rfl) ?_
      refine wp_skip ?_
      refine then_n ?_
      refine wp_seq (rg_dc 7 FF6 MM6 [(1, b_ 1), (0, u_ 1 (.agg (cn .u8 K))), (0, b_ 0), (1, t_ (sB (sealN K N [] Y)))] [] 9 [10] [] (⟨rfl, ((cn_size _ _).trans hK.1), (callP_B [2, 3] en_pKey rfl (fun w Hw => by have h0 := pKey_any hk hK w Hw (distinct_names rfl (distinct_at MM6.distinct (is := [2, 3]) rfl rfl)); rw [show ownN K ks = K by rw [ownN, hg]; exact hO rfl own hg] at h0; exact h0)), rfl, ((cn_size _ _).trans hN.1), (callP_of en_Seal (seal_any K N ⟨hK.1, hK.2⟩ ⟨hN.1, hN.2⟩ [] Y (lit_lt (by kernel_rfl)) hY (by decide) (by omega)) _), fun _ _ FF7 MM7 => then_n ?_⟩))
      refine wp_seq (rg_dc 10 FF7 MM7 [(3, l_ 2 (.map (some m3))), (0, b_ 1), (0, b_ 0), (1, f_ (.agg ((cn .u8 K) ++ (cn .u8 N) ++ (#[sB (sealN K N [] Y)] : Array Value)))), (1, t_ (sB Y))] [(0, r_ undef [(4, NM (mput (K, N, sealN K N [] Y) Y pn))])] 11 [] [] (⟨rfl, rfl, rfl, ((cn_size _ _).trans hK.1), rfl, ((cn_size _ _).trans hN.1), (build_ok (t := 111) (ps := #[(0, (.tmp 37)), (1, (.tmp 38)), (2, (.tmp 39))]) (by kernel_rfl) rfl (built_fits (pl := [(0, 32), (32, 12), (44, 1)]) (tot := 45) (n := 32) (by kernel_rfl) (by kernel_rfl) (ns := [12, 1]) ⟨rfl, (show (cn .u8 K).size = 32 from ((cn_size _ _).trans hK.1)), rfl, (show (cn .u8 N).size = 12 from ((cn_size _ _).trans hN.1)), rfl, rfl, rfl⟩ rfl)), (callP_of en_clone (clone_any Y hY (by omega)) _), (mapPut_ok (t := 71) (m := (.tmp 36)) (y := (.tmp 40)) (z := (.tmp 42)) (b := m3) (i := 4) (kf := boxV) (vf := noteV) (l := pn) (x := (K, N, sealN K N [] Y)) (v := Y) (by kernel_rfl) rfl rfl rfl Tryz.underlying71 box_law (fun p hp => (hp_.1 p hp).1) hp_.2 ⟨hK, hN, (sealN_lt _ _ _ hY), (by rw [sealN_len]; omega)⟩ rfl), fun _ _ FF8 MM8 => then_n ?_⟩))
      refine wp_seq (rg_c FF8 MM8 [] 11 [] [] (fun _ _ FF9 MM9 => then_n ?_))
      refine wp_ret ?_
      repeat first | refine then_ret ?_ | refine inb_ret ?_
      exact (ret_fr FF9 0 Tryz.results33 rfl (by rw [noteP_yes hg, box_real hg]; exact ⟨rfl, MM9.turnB [(m3, NM (mput (K, N, sealN K N [] Y) Y pn))] H (List.forall_mem_cons.2 ⟨(List.mem_of_getElem? (i := 4) rfl), (fun _ h => (nomatch h))⟩) (List.forall_mem_cons.2 ⟨.inl (List.mem_of_getElem? (i := 2) rfl), (List.forall_mem_cons.2 ⟨.inl (List.mem_of_getElem? (i := 3) rfl), (List.forall_mem_cons.2 ⟨.inr ⟨_, (List.mem_of_getElem? (i := 0) rfl), rfl⟩, (fun _ h => (nomatch h))⟩)⟩)⟩)⟩))
    | true =>
      refine wp_seq (rg_c FF5 MM5 [(3, l_ 2 (.bool true))] 10 [23] [] (⟨rfl, rfl, fun _ _ FF10 MM10 => then_n ?_⟩))
      refine wp_cond_true (FF10.ev 0 rfl) ?_
      refine rg_c FF10 MM10 [(1, t_ (iN Y.length)), (0, t_ (sB (List.replicate Y.length 0)))] 9 [9] [] (⟨(vI (bs_size _)), (callP_of en_repeat (repeat0_any Y.length (by omega)) _), fun _ _ FF11 MM11 => ?_⟩)
      refine then_n ?_
      refine wp_seq (rg_dc 7 FF11 MM11 [(1, b_ 1), (0, u_ 1 (.agg (cn .u8 (ownN K ks)))), (0, b_ 0), (1, t_ (sB (sealN (ownN K ks) N [] (List.replicate Y.length 0))))] [] 9 [10] [] (⟨rfl, ((cn_size _ _).trans hK.1), (callP_B [2, 3] en_pKey rfl (fun w Hw => pKey_any hk hK w Hw (distinct_names rfl (distinct_at MM11.distinct (is := [2, 3]) rfl rfl)))), rfl, ((cn_size _ _).trans hN.1), (callP_of en_Seal (seal_any (ownN K ks) N ⟨(own_ok hk hK).1, (own_ok hk hK).2⟩ ⟨hN.1, hN.2⟩ [] (List.replicate Y.length 0) (lit_lt (by kernel_rfl)) (rep0_lt (by decide)) (by decide) (by rw [List.length_replicate]; omega)) _), fun _ _ FF12 MM12 => then_n ?_⟩))
      refine wp_seq (rg_dc 10 FF12 MM12 [(3, l_ 2 (.map (some m3))), (0, b_ 1), (0, b_ 0), (1, f_ (.agg ((cn .u8 K) ++ (cn .u8 N) ++ (#[sB (sealN (ownN K ks) N [] (List.replicate Y.length 0))] : Array Value)))), (1, t_ (sB Y))] [(0, r_ undef [(4, NM (mput (K, N, sealN (ownN K ks) N [] (List.replicate Y.length 0)) Y pn))])] 11 [] [] (⟨rfl, rfl, rfl, ((cn_size _ _).trans hK.1), rfl, ((cn_size _ _).trans hN.1), (build_ok (t := 111) (ps := #[(0, (.tmp 37)), (1, (.tmp 38)), (2, (.tmp 39))]) (by kernel_rfl) rfl (built_fits (pl := [(0, 32), (32, 12), (44, 1)]) (tot := 45) (n := 32) (by kernel_rfl) (by kernel_rfl) (ns := [12, 1]) ⟨rfl, (show (cn .u8 K).size = 32 from ((cn_size _ _).trans hK.1)), rfl, (show (cn .u8 N).size = 12 from ((cn_size _ _).trans hN.1)), rfl, rfl, rfl⟩ rfl)), (callP_of en_clone (clone_any Y hY (by omega)) _), (mapPut_ok (t := 71) (m := (.tmp 36)) (y := (.tmp 40)) (z := (.tmp 42)) (b := m3) (i := 4) (kf := boxV) (vf := noteV) (l := pn) (x := (K, N, sealN (ownN K ks) N [] (List.replicate Y.length 0))) (v := Y) (by kernel_rfl) rfl rfl rfl Tryz.underlying71 box_law (fun p hp => (hp_.1 p hp).1) hp_.2 ⟨hK, hN, (sealN_lt _ _ _ (rep0_lt (by decide))), (by rw [sealN_len, List.length_replicate]; omega)⟩ rfl), fun _ _ FF13 MM13 => then_n ?_⟩))
      refine wp_seq (rg_c FF13 MM13 [] 11 [] [] (fun _ _ FF14 MM14 => then_n ?_))
      refine wp_ret ?_
      repeat first | refine then_ret ?_ | refine inb_ret ?_
      exact (ret_fr FF14 0 Tryz.results33 rfl (by rw [noteP_yes hg, box_ideal hg]; exact ⟨rfl, MM14.turnB [(m3, NM (mput (K, N, sealN (ownN K ks) N [] (List.replicate Y.length 0)) Y pn))] H (List.forall_mem_cons.2 ⟨(List.mem_of_getElem? (i := 4) rfl), (fun _ h => (nomatch h))⟩) (List.forall_mem_cons.2 ⟨.inl (List.mem_of_getElem? (i := 2) rfl), (List.forall_mem_cons.2 ⟨.inl (List.mem_of_getElem? (i := 3) rfl), (List.forall_mem_cons.2 ⟨.inr ⟨_, (List.mem_of_getElem? (i := 0) rfl), rfl⟩, (fun _ h => (nomatch h))⟩)⟩)⟩)⟩))
end Go.Proofs.YtdjpacgjhcidpabGreatDoor
namespace Go.Proofs.YtdjpacgjhcidpabGreatDoor
open Go.RowKit
/-- Blocks that are new since base, each apart from the others. -/
def NewAll (base : Nat) (w : World) (K : Blks) : Prop := Has w K ∧ Distinct K ∧ ∀ x ∈ K, base ≤ x.1
theorem newAll {w0 w : World} {L : Blks} {R : List Row} (M : MemS (fun k => k < w0.heap.size) w0 w L R) {is : List Nat} {K : Blks} (hn : apartB is = true) (hK : atL L is = some K) : NewAll w0.heap.size w K :=
  ⟨atL_has hK M.hasL, distinct_at M.distinct hn hK, fun x hx => by
    obtain ⟨i, _, hi⟩ := atL_mem hK x hx
    exact Nat.not_lt.1 (M.base i x hi)⟩
set_option maxRecDepth 100000 in
theorem pnew_any (i : Bool) (tp : Option Addr) (w0 : World) : Calls Tryz.prog 10 #[.bool i, .pointer tp] w0 fun e w' => ∃ b m1 m2 m3 : Nat, e = .returned (pT b) ∧ Below w0.heap.size w0 w' ∧ NewAll w0.heap.size w' [(b, BB i (.pointer tp) m1 m2 m3 0), (m1, KM []), (m2, KM []), (m3, NM [])] := by
  refine enter_fr Tryz.func10 rfl Tryz.ntmps10 (by simp) fun ac (FF : Fr 12 ac [(0, .bool i), (1, .pointer tp)]) => ?_
  have MM := MemS.start w0
  refine wp_seq (rg_c FF MM [] 5 [] [] (fun _ _ FF1 MM1 => then_n ?_))
  refine wp_seq (wp_region_list ?_)
  refine rp_c 3 FF1 MM1 [(2, n_ (.map none) (KM []))] 8 [] [0, 1] (⟨(makeMap_ok (t := 69) (by kernel_rfl)), fun m1 => fun _ _ FF2 MM2 => ?_⟩)
  refine rp_c 1 FF2 MM2 [(0, n_ (.map none) (KM []))] 9 [] [] (⟨(makeMap_ok (t := 70) (by kernel_rfl)), fun m2 => fun _ _ FF3 MM3 => ?_⟩)
  refine rp_c 1 FF3 MM3 [(0, n_ (.map none) (NM []))] 9 [9] [] (⟨(makeMap_ok (t := 71) (by kernel_rfl)), fun m3 => fun _ _ FF4 MM4 => ?_⟩)
  refine rp_c 2 FF4 MM4 [(0, t_ (aG #[.bool i, .pointer tp, .map (some m1), .map (some m2), .map (some m3), iN 0]))] 5 [11] [] (⟨(by kernel_rfl), fun b => fun _ _ FF5 MM5 => ?_⟩)
  refine rp_c 1 FF5 MM5 [] 5 [] [] (fun _ _ FF6 MM6 => ?_)
  refine wpl_nil (then_n ?_)
  refine wp_ret ?_
  repeat first | refine then_ret ?_ | refine inb_ret ?_
  exact (ret_fr FF6 0 Tryz.results10 rfl ⟨b, m1, m2, m3, rfl, MM6.below, newAll MM6 (is := [0, 3, 2, 1]) rfl rfl⟩)
end Go.Proofs.YtdjpacgjhcidpabGreatDoor
namespace Go.Proofs.YtdjpacgjhcidpabGreatDoor
open Go.RowKit
theorem en_body : Enters Tryz.prog 28 := fun args w => by simp [go_sem]
theorem en_text : Enters Tryz.prog 37 := fun args w => by simp [go_sem]
theorem en_request : Enters Tryz.prog 31 := fun args w => by simp [go_sem]
theorem en_parts : Enters Tryz.prog 13 := fun args w => by simp [go_sem]
set_option maxRecDepth 100000 in
theorem body_any (X : List Nat) (hX : ∀ i, X.getD i 0 < 256) (w0 : World) :
    Calls Tryz.prog 28 #[sB X] w0 fun e w' => e = .returned (.tuple #[.string (bs (bodyR X).1), iN ((bodyR X).2)]) ∧ Below w0.heap.size w0 w' := by
  refine enter_fr Tryz.func28 rfl Tryz.ntmps28 (by simp) fun ac (FF : Fr 17 ac [(0, sB X)]) => ?_
  have MM := MemS.start w0
  refine wp_seq (rg_c FF MM [(0, t_ (sB []))] 4 [] [] (⟨(by kernel_rfl), fun _ _ FF1 MM1 => then_n ?_⟩))
  refine wp_seq ?_
  refine wp_seq (rg_c FF1 MM1 [(1, t_ (iN X.length))] 4 [7] [] (⟨(vI (bs_size _)), fun _ _ FF2 MM2 => then_n ?_⟩))
  by_cases hs7 : X.length > 19
  · refine wp_cond_true ((FF2.ev 0 rfl).trans (dec_t hs7)) ?_
    refine wp_seq (rg_c FF2 MM2 [(0, t_ (sB []))] 4 [] [] (⟨(by kernel_rfl), fun _ _ FF3 MM3 => then_n ?_⟩))
    refine wp_ret ?_
    repeat first | refine then_ret ?_ | refine inb_ret ?_
    exact (ret_tup2 FF3 1 0 Tryz.results28 rfl rfl ⟨by rw [bodyR_no hs7], MM3.below⟩)
  · refine wp_cond_false ((FF2.ev 0 rfl).trans (dec_f hs7)) ?_
    have h19 : X.length ≤ 19 := by omega
    refine wp_skip ?_
    refine then_n ?_
    refine wp_seq (rg_c FF2 MM2 [(0, s_ 0 (.cells (cn .u8 (List.replicate 20 0)) 107))] 5 [] [] (⟨(by kernel_rfl), fun bl => fun _ _ FF4 MM4 => then_n ?_⟩))
    refine wp_seq (rg_c FF4 MM4 [(1, t_ (iN X.length)), (0, t_ (iB X.length)), (0, w_ 1), (0, s_ 0 (.cells (cn .u8 ((List.replicate 20 0).set 0 X.length)) 107))] 5 [] [] (⟨(vI (bs_size _)), (vI (Nat.mod_eq_of_lt (by omega))), by decide, rfl, (by rw [cn_size, (List.length_replicate ..)]; decide), (.inl rfl), (cn_set _ _ _ _), fun _ _ FF5 MM5 => then_n ?_⟩))
    refine wp_seq (rg_c FF5 MM5 [(2, r_ (iN (min X.length 19)) [(0, .cells (cn .u8 (bodyN X)) 107)])] 5 [] [] (⟨by decide, by decide, by decide, (copyStr_ok (p := .tmp 12) (q := .tmp 13) (t := 59) (tq := 9) (e := 5) (T := 107) (off := 1) (len := 19) (X := X) (cs := cn .u8 ((List.replicate 20 0).set 0 X.length)) (i := 0) (by kernel_rfl) rfl rfl hX Tryz.underlying59 (by kernel_rfl) rfl (by rw [cn_size, List.length_set, List.length_replicate]; decide) (body_cells h19)), fun _ _ FF6 MM6 => then_n ?_⟩))
    refine wp_seq (rg_c FF6 MM6 [(1, l_ 0 (sB (bodyN X)))] 5 [] [] (⟨by decide, by decide, by decide, rfl, (str_all (bodyN_len h19) (bodyN_lt hX h19)), fun _ _ FF7 MM7 => then_n ?_⟩))
    refine wp_ret ?_
    repeat first | refine then_ret ?_ | refine inb_ret ?_
    exact (ret_tup2 FF7 1 0 Tryz.results28 rfl rfl ⟨by rw [bodyR_ok h19], MM7.below⟩)
set_option maxRecDepth 100000 in
theorem text_any (B : List Nat) (hB : ∀ i, B.getD i 0 < 256) (w0 : World) :
    Calls Tryz.prog 37 #[sB B] w0 fun e w' => e = .returned (.tuple #[.string (bs (textR B).1), .bool (textR B).2]) ∧ Below w0.heap.size w0 w' := by
  refine enter_fr Tryz.func37 rfl Tryz.ntmps37 (by simp) fun ac (FF : Fr 32 ac [(0, sB B)]) => ?_
  have MM := MemS.start w0
  refine wp_seq (rg_c FF MM [(0, t_ (sB []))] 4 [] [] (⟨(by kernel_rfl), fun _ _ FF1 MM1 => then_n ?_⟩))
  refine wp_seq ?_
  by_cases h20 : B.length = 20
  · by_cases h0 : B.getD 0 0 ≤ 19
    · skip
      refine wp_seq (rg_c FF1 MM1 [(1, t_ (iN B.length)), (0, w_ 3), (2, t_ (iB (B.getD 0 0))), (0, w_ 1), (0, w_ 3)] 4 [15] [] (⟨(vI (bs_size _)), (fun h => h h20), (by simp only [bs_size]; omega), (byte_bs hB _), (by have := hB 0; omega), by omega, fun _ _ FF2 MM2 => then_n ?_⟩))
      refine wp_cond_false (FF2.ev 0 rfl) ?_
      refine wp_skip ?_
      refine then_n ?_
      have htl := textN_len h20 h0
      refine wp_seq (rg_c FF2 MM2 [(2, t_ (iB (B.getD 0 0))), (0, w_ 1), (1, t_ (sB (textN B))), (0, t_ (sB (textN B)))] 5 [] [] (⟨(by simp only [bs_size]; omega), (byte_bs hB _), (by have := hB 0; omega), (by have := hB 0; omega), (by have := hB 0; omega), (by simp only [bs_size]; have := hB 0; omega), (vS2 (bs_extract _ _ _)), (callP_of en_clone (clone_any (textN B) (textN_lt hB) (by omega)) _), fun _ _ FF3 MM3 => then_n ?_⟩))
      refine wp_seq ?_
      refine wp_seq (rg_c FF3 MM3 [(1, t_ (.tuple #[sB (bodyN (textN B)), iN 0]))] 6 [] [] (⟨(callP_of en_body (fun w => by have h0 := body_any (textN B) (textN_lt hB) w; rw [bodyR_ok (by omega)] at h0; exact h0) _), fun _ _ FF4 MM4 => then_n ?_⟩))
      by_cases he : bodyN (textN B) = B
      · skip
        refine wp_seq (rg_c FF4 MM4 [(2, w_ 3)] 5 [30] [] (⟨(fun h => h (congrArg bs he)), fun _ _ FF5 MM5 => then_n ?_⟩))
        refine wp_cond_false (FF5.ev 0 rfl) ?_
        refine wp_skip ?_
        refine then_n ?_
        refine wp_seq (rg_c FF5 MM5 [] 5 [] [] (fun _ _ FF6 MM6 => then_n ?_))
        refine wp_ret ?_
        repeat first | refine then_ret ?_ | refine inb_ret ?_
        exact (ret_tup2 FF6 1 0 Tryz.results37 rfl rfl ⟨by rw [textR_ok h20 h0 he], MM6.below⟩)
      · skip
        refine wp_seq (rg_c FF4 MM4 [(2, w_ 2)] 5 [30] [] (⟨(fun h => he (bs_inj (bodyN_lt (textN_lt hB) (by omega)) hB h)), fun _ _ FF7 MM7 => then_n ?_⟩))
        refine wp_cond_true (FF7.ev 0 rfl) ?_
        refine wp_seq (rg_c FF7 MM7 [(0, t_ (sB []))] 5 [] [] (⟨(by kernel_rfl), fun _ _ FF8 MM8 => then_n ?_⟩))
        refine wp_ret ?_
        repeat first | refine then_ret ?_ | refine inb_ret ?_
        exact (ret_tup2 FF8 1 0 Tryz.results37 rfl rfl ⟨by rw [textR_else he], MM8.below⟩)
    · skip
      refine wp_seq (rg_c FF1 MM1 [(1, t_ (iN B.length)), (0, w_ 3), (2, t_ (iB (B.getD 0 0))), (0, w_ 1), (0, w_ 2)] 4 [15] [] (⟨(vI (bs_size _)), (fun h => h h20), (by simp only [bs_size]; omega), (byte_bs hB _), (by have := hB 0; omega), by omega, fun _ _ FF9 MM9 => then_n ?_⟩))
      refine wp_cond_true (FF9.ev 0 rfl) ?_
      refine wp_seq (rg_c FF9 MM9 [(0, t_ (sB []))] 4 [] [] (⟨(by kernel_rfl), fun _ _ FF10 MM10 => then_n ?_⟩))
      refine wp_ret ?_
      repeat first | refine then_ret ?_ | refine inb_ret ?_
      exact (ret_tup2 FF10 1 0 Tryz.results37 rfl rfl ⟨by rw [textR_big (by omega)], MM10.below⟩)
  · skip
    refine wp_seq (rg_c FF1 MM1 [(1, t_ (iN B.length)), (0, w_ 2)] 4 [15] [] (⟨(vI (bs_size _)), h20, fun _ _ FF11 MM11 => then_n ?_⟩))
    refine wp_cond_true (FF11.ev 0 rfl) ?_
    refine wp_seq (rg_c FF11 MM11 [(0, t_ (sB []))] 4 [] [] (⟨(by kernel_rfl), fun _ _ FF12 MM12 => then_n ?_⟩))
    refine wp_ret ?_
    repeat first | refine then_ret ?_ | refine inb_ret ?_
    exact (ret_tup2 FF12 1 0 Tryz.results37 rfl rfl ⟨by rw [textR_len h20], MM12.below⟩)
set_option maxRecDepth 100000 in
theorem request_any (D : List Nat) (hDl : D.length = 16) (hD : ∀ i, D.getD i 0 < 256) (B : List Nat) (w0 : World) :
    Calls Tryz.prog 31 #[.agg (cn .u8 D), sB B] w0 fun e w' => e = .returned (.tuple #[.string (bs (requestR D B).1), iN ((requestR D B).2)]) ∧ Below w0.heap.size w0 w' := by
  refine enter_fr Tryz.func31 rfl Tryz.ntmps31 (by simp) fun ac (FF : Fr 13 ac [(0, .agg (cn .u8 D)), (1, sB B)]) => ?_
  have MM := MemS.start w0
  refine wp_seq (rg_c FF MM [(0, s_ 0 (.cells (cn .u8 D) 32)), (0, t_ (sB []))] 6 [] [0] (⟨(by kernel_rfl), fun bi => ⟨(by kernel_rfl), fun _ _ FF1 MM1 => then_n ?_⟩⟩))
  refine wp_seq ?_
  refine wp_seq (rg_c FF1 MM1 [(1, t_ (iN B.length))] 6 [8] [] (⟨(vI (bs_size _)), fun _ _ FF2 MM2 => then_n ?_⟩))
  by_cases hs8 : B.length ≠ 36
  · refine wp_cond_true ((FF2.ev 0 rfl).trans (dec_t hs8)) ?_
    refine wp_seq (rg_c FF2 MM2 [(0, t_ (sB []))] 6 [] [] (⟨(by kernel_rfl), fun _ _ FF3 MM3 => then_n ?_⟩))
    refine wp_ret ?_
    repeat first | refine then_ret ?_ | refine inb_ret ?_
    exact (ret_tup2 FF3 1 0 Tryz.results31 rfl rfl ⟨by rw [requestR_no hs8], MM3.below⟩)
  · refine wp_cond_false ((FF2.ev 0 rfl).trans (dec_f hs8)) ?_
    refine wp_skip ?_
    refine then_n ?_
    refine wp_seq (rg_c FF2 MM2 [(1, l_ 0 (sB D)), (1, t_ (sB (D ++ B)))] 6 [] [2] (⟨by decide, by decide, by decide, rfl, (str_all hDl hD), (by simp only [bs_size]; omega), (vS2 (bs_app _ _)), fun _ _ FF4 MM4 => then_n ?_⟩))
    refine wp_ret ?_
    repeat first | refine then_ret ?_ | refine inb_ret ?_
    exact (ret_tup2 FF4 1 0 Tryz.results31 rfl rfl ⟨by rw [requestR_ok (Decidable.of_not_not hs8)], MM4.below⟩)
set_option maxRecDepth 100000 in
theorem parts_any (X : List Nat) (hX : ∀ i, X.getD i 0 < 256) (w0 : World) :
    Calls Tryz.prog 13 #[sB X] w0 fun e w' => e = .returned (.tuple #[.agg (cn .u8 (partsR X).1), .string (bs (partsR X).2.1), .bool (partsR X).2.2]) ∧ Below w0.heap.size w0 w' := by
  refine enter_fr Tryz.func13 rfl Tryz.ntmps13 (by simp) fun ac (FF : Fr 19 ac [(0, sB X)]) => ?_
  have MM := MemS.start w0
  refine wp_seq (rg_c FF MM [(0, s_ 0 (.cells (cn .u8 (List.replicate 16 0)) 32)), (0, t_ (sB []))] 5 [] [] (⟨(by kernel_rfl), fun br => ⟨(by kernel_rfl), fun _ _ FF1 MM1 => then_n ?_⟩⟩))
  refine wp_seq ?_
  refine wp_seq (rg_c FF1 MM1 [(1, t_ (iN X.length))] 5 [9] [] (⟨(vI (bs_size _)), fun _ _ FF2 MM2 => then_n ?_⟩))
  by_cases hs9 : X.length ≠ 52
  · refine wp_cond_true ((FF2.ev 0 rfl).trans (dec_t hs9)) ?_
    refine wp_seq (rg_c FF2 MM2 [(0, t_ (.agg (cn .u8 (List.replicate 16 0)))), (0, b_ 0), (0, t_ (sB []))] 5 [] [] (⟨(by kernel_rfl), rfl, ((cn_size _ _).trans (List.length_replicate ..)), ((cn_size _ _).trans (List.length_replicate ..)), (cn_one _ _), rfl, (by kernel_rfl), fun _ _ FF3 MM3 => then_n ?_⟩))
    refine wp_ret ?_
    repeat first | refine then_ret ?_ | refine inb_ret ?_
    exact (ret_ctt FF3 MM3 (k := 16) (i := 0) (j := 2) (m := 1) (m2 := 0) Tryz.results13 rfl rfl rfl rfl Tryz.underlying32 rfl (by kernel_rfl) ((cn_size _ _).trans (List.length_replicate ..)) ⟨by rw [partsR_no hs9], MM3.below⟩)
  · refine wp_cond_false ((FF2.ev 0 rfl).trans (dec_f hs9)) ?_
    have h52 : X.length = 52 := Decidable.of_not_not hs9
    refine wp_skip ?_
    refine then_n ?_
    refine wp_seq (rg_c FF2 MM2 [(0, s_ 0 (.cells (cn .u8 (List.replicate 16 0)) 32))] 6 [] [] (⟨(by kernel_rfl), fun bi => fun _ _ FF4 MM4 => then_n ?_⟩))
    refine wp_seq (rg_c FF4 MM4 [(2, r_ (iN 16) [(0, .cells (cn .u8 (X.take 16)) 32)])] 7 [] [] (⟨by decide, by decide, by decide, (by have h0 := copyStr_ok (P := Tryz.prog) (l := [(12, sB X), (11, .slice (some ⟨bi, 0, none⟩) 16 16), (5, pT bi), (4, .bool false), (3, sB []), (2, pT br), (0, sB X)]) (L := [(bi, .cells (cn .u8 (List.replicate 16 0)) 32), (br, .cells (cn .u8 (List.replicate 16 0)) 32)]) (o := opAt Tryz.f13 4 2) (p := .tmp 11) (q := .tmp 12) (t := 59) (tq := 9) (e := 5) (T := 32) (off := 0) (len := 16) (X := X) (cs := cn .u8 (List.replicate 16 0)) (i := 0) (by kernel_rfl) rfl rfl hX Tryz.underlying59 (by kernel_rfl) rfl (by rw [cn_size, List.length_replicate]; decide) (parts_cells h52); rw [show min X.length 16 = 16 by omega] at h0; exact h0), fun _ _ FF5 MM5 => then_n ?_⟩))
    refine wp_seq (rg_dc 5 FF5 MM5 [(0, b_ 0), (2, t_ (sB (X.drop 16))), (0, t_ (sB (X.drop 16)))] [(0, b_ 1)] 6 [] [] (⟨rfl, ((cn_size _ _).trans (by rw [List.length_take, h52]; rfl)), (by simp only [bs_size]; omega), (Nat.zero_le _), (vS2 (bs_from _ _)), (callP_of en_clone (clone_any (X.drop 16) (drop_lt hX) (by rw [List.length_drop]; omega)) _), rfl, ((cn_size _ _).trans (List.length_replicate ..)), ((cn_size _ _).trans (by rw [List.length_take, h52]; rfl)), (cn_one _ _), rfl, fun _ _ FF6 MM6 => then_n ?_⟩))
    refine wp_ret ?_
    repeat first | refine then_ret ?_ | refine inb_ret ?_
    exact (ret_ctt FF6 MM6 (k := 16) (i := 1) (j := 3) (m := 1) (m2 := 0) Tryz.results13 rfl rfl rfl rfl Tryz.underlying32 rfl (by kernel_rfl) ((cn_size _ _).trans (by rw [List.length_take, h52]; rfl)) ⟨by rw [partsR_ok h52], MM6.below⟩)
end Go.Proofs.YtdjpacgjhcidpabGreatDoor
namespace Go.Proofs.YtdjpacgjhcidpabGreatDoor
open Go.RowKit
set_option maxRecDepth 100000 in
theorem popen_nil_yes (K N Z : List Nat) (hK : BytesK 32 K) (hN : BytesK 12 N) (hZ : ∀ i, Z.getD i 0 < 256) (hZl : Z.length ≤ 1000000) (ho : opensN K N [] Z) (w0 : World) :
    Calls Tryz.prog 36 #[.pointer none, .agg (cn .u8 K), .agg (cn .u8 N), sB Z] w0 fun e w' => e = .returned (.tuple #[sB (plainN K N Z), .bool true]) ∧ Below w0.heap.size w0 w' := by
  refine enter_fr Tryz.func36 rfl Tryz.ntmps36 (by simp) fun ac (FF : Fr 64 ac [(0, .pointer none), (1, .agg (cn .u8 K)), (2, .agg (cn .u8 N)), (3, sB Z)]) => ?_
  have MM := MemS.start w0
  refine wp_seq (rg_c FF MM [(0, s_ 0 (.cells (cn .u8 K) 23)), (0, s_ 0 (.cells (cn .u8 N) 56)), (0, t_ (sB []))] 9 [9] [1, 2] (⟨(by kernel_rfl), fun bk => ⟨(by kernel_rfl), fun bn => ⟨(by kernel_rfl), fun _ _ FF1 MM1 => then_n ?_⟩⟩⟩))
  refine wp_seq ?_
  refine wp_seq (rg_c FF1 MM1 [(1, b_ 1), (0, t_ (.bool false))] 10 [17] [] (⟨rfl, ((cn_size _ _).trans hK.1), (callP_of en_pshared (pshared_nil K hK) _), fun _ _ FF2 MM2 => then_n ?_⟩))
  refine wp_cond_true (FF2.ev 0 rfl) ?_
  refine wp_seq (rg_c FF2 MM2 [(0, b_ 1), (0, b_ 0), (1, t_ (.tuple #[sB (plainN K N Z), .bool true]))] 9 [9] [] (⟨rfl, ((cn_size _ _).trans hK.1), rfl, ((cn_size _ _).trans hN.1), (callP_of en_Open (open_yes K N ⟨hK.1, hK.2⟩ ⟨hN.1, hN.2⟩ [] Z (lit_lt (by kernel_rfl)) hZ (by decide) (by omega) ho.1 ho) _), fun _ _ FF3 MM3 => then_n ?_⟩))
  refine wp_ret ?_
  repeat first | refine then_ret ?_ | refine inb_ret ?_
  exact (ret_tup2 FF3 1 0 Tryz.results36 rfl rfl ⟨rfl, MM3.below⟩)
/-- In the real game what stands for a key is it. -/
def OwnI (i : Bool) (ks : Pairs) : Prop := i = false → ∀ p ∈ ks, p.2 = p.1
theorem ownI_nil (i : Bool) : OwnI i [] := fun _ _ h => (nomatch h)
theorem OwnI.share {i : Bool} {n : Nat} {K : List Nat} {ks : Pairs} (h : OwnI i ks) (Y : List Nat) : OwnI i (shareK i n K ks Y) := fun hi p hp => by
  cases hg : mget K ks with
  | some v => rw [(share_yes hg Y).1] at hp; exact h hi p hp
  | none =>
    rw [(share_no hg Y).1, List.mem_append] at hp
    rcases hp with hp | hp
    · exact h hi p hp
    · rw [List.mem_singleton] at hp
      subst hp
      subst hi
      rfl
theorem OwnI.get {i : Bool} {K : List Nat} {ks : Pairs} (h : OwnI i ks) : i = false → ∀ own, mget K ks = some own → own = K := fun hi _ hg => h hi _ (mget_mem hg)
theorem own_real {K : List Nat} {ks : Pairs} (h : OwnI false ks) : ownN K ks = K := by
  unfold ownN
  cases hg : mget K ks with
  | none => rfl
  | some v => exact h.get rfl v hg
theorem real_box (K N : List Nat) (ks : Pairs) (X : List Nat) : boxN false K N ks X = sealN K N [] X := if_neg (by simp)
theorem okQ_nil : OkQ [] := ⟨fun _ h => (nomatch h), List.Pairwise.nil⟩
/-- A book that was made. -/
def NewBk (i : Bool) (tp : Option Addr) (w w' : World) (v : Value) : Prop := ∃ b m1 m2 m3 : Nat, v = pT b ∧ Below w.heap.size w w' ∧ NewAll w.heap.size w' [(b, BB i (.pointer tp) m1 m2 m3 0), (m1, KM []), (m2, KM []), (m3, NM [])]
theorem pnew_E (i : Bool) (tp : Option Addr) (w0 : World) : Calls Tryz.prog 10 #[.bool i, .pointer tp] w0 fun e w' => ∃ v, e = .returned v ∧ NewBk i tp w0 w' v :=
  (pnew_any i tp w0).mono fun _ _ ⟨b, m1, m2, m3, h1, h2, h3⟩ => ⟨_, h1, b, m1, m2, m3, rfl, h2, h3⟩
end Go.Proofs.YtdjpacgjhcidpabGreatDoor
namespace Go.Proofs.YtdjpacgjhcidpabGreatDoor
open Go.RowKit
theorem en_less : Enters Tryz.prog 44 := fun args w => by simp [go_sem]
theorem en_row : Enters Tryz.prog 23 := fun args w => by simp [go_sem]
theorem en_keyof : Enters Tryz.prog 24 := fun args w => by simp [go_sem]
theorem en_tnon : Enters Tryz.prog 34 := fun args w => by simp [go_sem]
theorem en_tname : Enters Tryz.prog 8 := fun args w => by simp [go_sem]
theorem en_meet : Enters Tryz.prog 6 := fun args w => by simp [go_sem]
theorem en_say : Enters Tryz.prog 12 := fun args w => by simp [go_sem]
theorem en_hear : Enters Tryz.prog 14 := fun args w => by simp [go_sem]
theorem en_idle : Enters Tryz.prog 16 := fun args w => by simp [go_sem]
set_option maxRecDepth 100000 in
theorem less_any (A B : List Nat) (hA : BytesK 32 A) (hB : BytesK 32 B) (w0 : World) :
    Calls Tryz.prog 44 #[.agg (cn .u8 A), .agg (cn .u8 B)] w0 fun e w' => e = .returned (.agg (cn .u8 (lesN A B))) ∧ Below w0.heap.size w0 w' := by
  refine enter_fr Tryz.func44 rfl Tryz.ntmps44 (by simp) fun ac (FF : Fr 13 ac [(0, .agg (cn .u8 A)), (1, .agg (cn .u8 B))]) => ?_
  have MM := MemS.start w0
  refine wp_seq (rg_c FF MM [(0, s_ 0 (.cells (cn .u8 A) 23)), (0, s_ 0 (.cells (cn .u8 B) 23)), (0, s_ 0 (.cells (cn .u8 (List.replicate 32 0)) 23))] 5 [] [0, 1] (⟨(by kernel_rfl), fun ba => ⟨(by kernel_rfl), fun bb => ⟨(by kernel_rfl), fun br => fun _ _ FF1 MM1 => then_n ?_⟩⟩⟩))
  refine wp_seq (rg_draw2 FF1 MM1 [.inl (.slice (some ⟨ba, 0, none⟩) 32 32), .inl (sB A), .inl (.slice (some ⟨bb, 0, none⟩) 32 32), .inl (sB B), .inl (sB (lesN A B)), .inr (fun c => .cells (cn .u8 ((lesN A B) ++ List.replicate c 0)) 5 ((lesN A B).length + c, (lesN A B).length + c + 1), fun b c => .slice (some ⟨b, 0, none⟩) ((lesN A B).length) ((lesN A B).length + c)), .inr (fun c => .cells (cn .u8 ((lesN A B) ++ List.replicate c 0)) 5 ((lesN A B).length + c, (lesN A B).length + c + 1), fun b c => pT b), .inl (.agg (cn .u8 (lesN A B)))] [] [o_, l_ 2 (sB A), o_, l_ 1 (sB B), f_ (sB (lesN A B)), y_, g_ 5, l_ 0 (.agg (cn .u8 (lesN A B)))] [b_ 0] [4] (fun nb cp => [0 ≤ 32, 32 ≤ 32, 0 < 32, ba = ba, StrAt (cn .u8 A) 0 32 (bs A), 0 ≤ 32, 32 ≤ 32, 0 < 32, bb = bb, StrAt (cn .u8 B) 0 32 (bs B), RunV Tryz.prog [(6, sB A), (8, sB B), (4, pT br), (3, pT bb), (2, pT ba)] [(br, .cells (cn .u8 (List.replicate 32 0)) 23), (bb, .cells (cn .u8 B) 23), (ba, .cells (cn .u8 A) 23)] (opAt Tryz.f44 1 4) (sB (lesN A B)), RunB Tryz.prog [(9, sB (lesN A B)), (4, pT br), (3, pT bb), (2, pT ba)] [(br, .cells (cn .u8 (List.replicate 32 0)) 23), (bb, .cells (cn .u8 B) 23), (ba, .cells (cn .u8 A) 23)] (opAt Tryz.f44 1 5) (fun c => .cells (cn .u8 ((lesN A B) ++ List.replicate c 0)) 5 ((lesN A B).length + c, (lesN A B).length + c + 1)) (fun b c => .slice (some ⟨b, 0, none⟩) ((lesN A B).length) ((lesN A B).length + c)), 32 ≤ (lesN A B).length, pT (nb 5) = pT (nb 5), Obj.cells (cn .u8 ((lesN A B) ++ List.replicate (cp 5) 0)) 5 ((lesN A B).length + (cp 5), (lesN A B).length + (cp 5) + 1) = .cells (cn .u8 ((lesN A B) ++ List.replicate (cp 5) 0)) 5 ((lesN A B).length + (cp 5), (lesN A B).length + (cp 5) + 1), (nb 6) = (nb 6), PartAt (cn .u8 ((lesN A B) ++ List.replicate (cp 6) 0)) 0 (cn .u8 (lesN A B)), (cn .u8 (lesN A B)).size = 32]) (fun nb cp Kt => br = br ∧ (cn .u8 (List.replicate 32 0)).size = 32 ∧ (cn .u8 (lesN A B)).size = 32 ∧ (cn .u8 (lesN A B)).all (·.oneCell') = true ∧ (0, 0).2 = 0 ∧ Kt [(4, pT br)] [(br, .cells (cn .u8 (lesN A B)) 23), (bb, .cells (cn .u8 B) 23), (ba, .cells (cn .u8 A) 23)]) (by kernel_rfl) (by kernel_rfl) (by kernel_rfl) (fun _ _ => by kernel_rfl) (fun _ _ _ => by kernel_rfl) trivial (by kernel_rfl) (fun nb cp => ⟨by decide, by decide, by decide, rfl, (str_all hA.1 hA.2), by decide, by decide, by decide, rfl, (str_all hB.1 hB.2), (minS_ok (t := 9) (u := 9) (x := .tmp 6) (y := .tmp 8) (by kernel_rfl) rfl rfl), (bytes_ok (e := 5) (x := (.tmp 9)) (by kernel_rfl) rfl (les_ok hA hB).2 Tryz.underlying9 Tryz.underlying59 Tryz.underlying5), (by rw [(les_ok hA hB).1]; decide), rfl, rfl, rfl, (part_rep _ _), ((cn_size _ _).trans (les_ok hA hB).1), trivial⟩) (fun nb cp => ⟨rfl, ((cn_size _ _).trans (List.length_replicate ..)), ((cn_size _ _).trans (les_ok hA hB).1), (cn_one _ _), rfl, fun _ _ FF2 MM2 => then_n ?_⟩))
  refine wp_ret ?_
  repeat first | refine then_ret ?_ | refine inb_ret ?_
  exact (retc FF2 MM2 (k := 32) (i := 0) (j := 0) Tryz.results44 rfl rfl Tryz.underlying23 rfl (by kernel_rfl) ((cn_size _ _).trans (les_ok hA hB).1) ⟨rfl, MM2.below⟩)
set_option maxRecDepth 100000 in
theorem row_any (A B : List Nat) (hA : BytesK 32 A) (hB : BytesK 32 B) (w0 : World) :
    Calls Tryz.prog 23 #[.agg (cn .u8 A), .agg (cn .u8 B)] w0 fun e w' => e = .returned (.tuple #[.agg (cn .u8 (rowN A B).1), .agg (cn .u8 (rowN A B).2)]) ∧ Below w0.heap.size w0 w' := by
  refine enter_fr Tryz.func23 rfl Tryz.ntmps23 (by simp) fun ac (FF : Fr 15 ac [(0, .agg (cn .u8 A)), (1, .agg (cn .u8 B))]) => ?_
  have MM := MemS.start w0
  refine wp_seq (rg_c FF MM [(0, s_ 0 (.cells (cn .u8 A) 23)), (0, s_ 0 (.cells (cn .u8 B) 23)), (0, s_ 0 (.cells (cn .u8 (List.replicate 32 0)) 23)), (0, s_ 0 (.cells (cn .u8 (List.replicate 32 0)) 23))] 6 [] [0, 1] (⟨(by kernel_rfl), fun ba => ⟨(by kernel_rfl), fun bb => ⟨(by kernel_rfl), fun bl => ⟨(by kernel_rfl), fun bh => fun _ _ FF1 MM1 => then_n ?_⟩⟩⟩⟩))
  refine wp_seq ?_
  by_cases hE : lesN A B = B
  · skip
    refine wp_seq (rg_dc 5 FF1 MM1 [(0, b_ 3), (0, b_ 2), (0, t_ (.agg (cn .u8 (lesN A B)))), (0, b_ 2), (0, f_ (.bool true))] [] 6 [10] [] (⟨rfl, ((cn_size _ _).trans hA.1), rfl, ((cn_size _ _).trans hB.1), (callP_of en_less (less_any A B ⟨hA.1, hA.2⟩ ⟨hB.1, hB.2⟩) _), rfl, ((cn_size _ _).trans hB.1), (eqA_ok (t := 23) (t' := 23) (e := 5) (m := 32) (k := .u8) (x := (.tmp 8)) (y := (.tmp 9)) (by kernel_rfl) Tryz.underlying23 Tryz.underlying5 (by kernel_rfl) (by kernel_rfl) (by kernel_rfl) rfl rfl (les_ok ⟨hA.1, hA.2⟩ ⟨hB.1, hB.2⟩).1 hB.1 (decide_eq_true hE)), fun _ _ FF2 MM2 => then_n ?_⟩))
    refine wp_cond_true (FF2.ev 0 rfl) ?_
    refine wp_seq (late_stand (N := 4) [(ba, .cells (cn .u8 A) 23), (bb, .cells (cn .u8 B) 23)] (by kernel_rfl) (by kernel_rfl) MM2 fun wq3 MM4 => ?_)
    refine late_take FF2 (i := 0) (oi := (opAt Tryz.f23 2 0)) (v := (.agg (cn .u8 B))) (d := 11) (atL_has (is := [3, 2]) rfl MM4.hasL) (by kernel_rfl) (by kernel_rfl) (by kernel_rfl) (by kernel_rfl) (by kernel_rfl) (fun _ _ _ _ _ h => h) (by kernel_rfl) (by decide) (by kernel_rfl) (loadRi (x := (.tmp 3)) (k := 1) (m := 32) (by kernel_rfl) rfl Tryz.underlying23 rfl (by kernel_rfl) rfl ((cn_size _ _).trans hB.1)) fun _ FF5 => ?_
    refine late_take FF5 (i := 1) (oi := (opAt Tryz.f23 2 1)) (v := (.agg (cn .u8 A))) (d := 12) (atL_has (is := [3, 2]) rfl MM4.hasL) (by kernel_rfl) (by kernel_rfl) (by kernel_rfl) (by kernel_rfl) (by kernel_rfl) (fun _ _ _ _ _ h => h) (by kernel_rfl) (by decide) (by kernel_rfl) (loadRi (x := (.tmp 2)) (k := 0) (m := 32) (by kernel_rfl) rfl Tryz.underlying23 rfl (by kernel_rfl) rfl ((cn_size _ _).trans hA.1)) fun _ FF6 => ?_
    refine late_one (i := 2) (oi := (opAt Tryz.f23 2 2)) (by kernel_rfl) (by kernel_rfl) ?_
    refine rp_c 1 FF6 MM4 [(0, b_ 1)] 6 [12] [] (⟨rfl, ((cn_size _ _).trans (List.length_replicate ..)), ((cn_size _ _).trans hB.1), (cn_one _ _), rfl, fun _ _ FF7 MM7 => ?_⟩)
    refine wpl_nil (onN_n ⟨fun _ => (atL_has (is := [3, 2]) rfl MM7.hasL), ?_⟩)
    refine late_one (i := 3) (oi := (opAt Tryz.f23 2 3)) (by kernel_rfl) (by kernel_rfl) ?_
    refine rp_c 1 FF7 MM7 [(0, b_ 0)] 6 [] [] (⟨rfl, ((cn_size _ _).trans (List.length_replicate ..)), ((cn_size _ _).trans hA.1), (cn_one _ _), rfl, fun _ _ FF8 MM8 => ?_⟩)
    refine wpl_nil (onN_n ⟨fun _ => (atL_has (is := [3, 2]) rfl MM8.hasL), ?_⟩)
    refine late_none (by kernel_rfl) (then_n ?_)
    refine wp_ret ?_
    repeat first | refine then_ret ?_ | refine inb_ret ?_
    exact (ret_cc FF8 MM8 (k := 32) (k2 := 32) (i := 1) (i2 := 0) (j := 1) (m := 0) Tryz.results23 rfl rfl rfl rfl Tryz.underlying23 Tryz.underlying23 rfl rfl (by kernel_rfl) (by kernel_rfl) ((cn_size _ _).trans hB.1) ((cn_size _ _).trans hA.1) (by rw [rowN_yes hE]; exact ⟨rfl, MM8.below⟩))
  · skip
    refine wp_seq (rg_dc 5 FF1 MM1 [(0, b_ 3), (0, b_ 2), (0, t_ (.agg (cn .u8 (lesN A B)))), (0, b_ 2), (0, f_ (.bool false))] [] 6 [10] [] (⟨rfl, ((cn_size _ _).trans hA.1), rfl, ((cn_size _ _).trans hB.1), (callP_of en_less (less_any A B ⟨hA.1, hA.2⟩ ⟨hB.1, hB.2⟩) _), rfl, ((cn_size _ _).trans hB.1), (eqA_ok (t := 23) (t' := 23) (e := 5) (m := 32) (k := .u8) (x := (.tmp 8)) (y := (.tmp 9)) (by kernel_rfl) Tryz.underlying23 Tryz.underlying5 (by kernel_rfl) (by kernel_rfl) (by kernel_rfl) rfl rfl (les_ok ⟨hA.1, hA.2⟩ ⟨hB.1, hB.2⟩).1 hB.1 (decide_eq_false hE)), fun _ _ FF9 MM9 => then_n ?_⟩))
    refine wp_cond_false (FF9.ev 0 rfl) ?_
    refine wp_skip ?_
    refine then_n ?_
    refine wp_seq (late_stand (N := 4) [(ba, .cells (cn .u8 A) 23), (bb, .cells (cn .u8 B) 23)] (by kernel_rfl) (by kernel_rfl) MM9 fun wq10 MM11 => ?_)
    refine late_take FF9 (i := 0) (oi := (opAt Tryz.f23 3 0)) (v := (.agg (cn .u8 A))) (d := 13) (atL_has (is := [3, 2]) rfl MM11.hasL) (by kernel_rfl) (by kernel_rfl) (by kernel_rfl) (by kernel_rfl) (by kernel_rfl) (fun _ _ _ _ _ h => h) (by kernel_rfl) (by decide) (by kernel_rfl) (loadRi (x := (.tmp 2)) (k := 0) (m := 32) (by kernel_rfl) rfl Tryz.underlying23 rfl (by kernel_rfl) rfl ((cn_size _ _).trans hA.1)) fun _ FF12 => ?_
    refine late_take FF12 (i := 1) (oi := (opAt Tryz.f23 3 1)) (v := (.agg (cn .u8 B))) (d := 14) (atL_has (is := [3, 2]) rfl MM11.hasL) (by kernel_rfl) (by kernel_rfl) (by kernel_rfl) (by kernel_rfl) (by kernel_rfl) (fun _ _ _ _ _ h => h) (by kernel_rfl) (by decide) (by kernel_rfl) (loadRi (x := (.tmp 3)) (k := 1) (m := 32) (by kernel_rfl) rfl Tryz.underlying23 rfl (by kernel_rfl) rfl ((cn_size _ _).trans hB.1)) fun _ FF13 => ?_
    refine late_one (i := 2) (oi := (opAt Tryz.f23 3 2)) (by kernel_rfl) (by kernel_rfl) ?_
    refine rp_c 1 FF13 MM11 [(0, b_ 1)] 6 [14] [] (⟨rfl, ((cn_size _ _).trans (List.length_replicate ..)), ((cn_size _ _).trans hA.1), (cn_one _ _), rfl, fun _ _ FF14 MM14 => ?_⟩)
    refine wpl_nil (onN_n ⟨fun _ => (atL_has (is := [3, 2]) rfl MM14.hasL), ?_⟩)
    refine late_one (i := 3) (oi := (opAt Tryz.f23 3 3)) (by kernel_rfl) (by kernel_rfl) ?_
    refine rp_c 1 FF14 MM14 [(0, b_ 0)] 6 [] [] (⟨rfl, ((cn_size _ _).trans (List.length_replicate ..)), ((cn_size _ _).trans hB.1), (cn_one _ _), rfl, fun _ _ FF15 MM15 => ?_⟩)
    refine wpl_nil (onN_n ⟨fun _ => (atL_has (is := [3, 2]) rfl MM15.hasL), ?_⟩)
    refine late_none (by kernel_rfl) (then_n ?_)
    refine wp_ret ?_
    repeat first | refine then_ret ?_ | refine inb_ret ?_
    exact (ret_cc FF15 MM15 (k := 32) (k2 := 32) (i := 1) (i2 := 0) (j := 1) (m := 0) Tryz.results23 rfl rfl rfl rfl Tryz.underlying23 Tryz.underlying23 rfl rfl (by kernel_rfl) (by kernel_rfl) ((cn_size _ _).trans hA.1) ((cn_size _ _).trans hB.1) (by rw [rowN_no hE]; exact ⟨rfl, MM15.below⟩))
set_option maxRecDepth 100000 in
theorem keyof_any (Tg : TypeId) (fg : Nat × Nat) (L X Y Z : List Nat) (hL : ∀ i, L.getD i 0 < 256) (hl : L.length ≤ 100) (hX : BytesK 32 X) (hY : BytesK 32 Y) (hZ : BytesK 32 Z) (w0 : World) (hg : w0.heap[0]? = some (.cells (cn .u32 kTab) Tg fg)) :
    Calls Tryz.prog 24 #[sB L, .agg (cn .u8 X), .agg (cn .u8 Y), .agg (cn .u8 Z)] w0 fun e w' => e = .returned (.agg (cn .u8 (kyN L X Y Z))) ∧ Below w0.heap.size w0 w' := by
  have MM := MemS.start1 hg
  refine enter_fr Tryz.func24 rfl Tryz.ntmps24 (by simp) fun ac (FF : Fr 18 ac [(0, sB L), (1, .agg (cn .u8 X)), (2, .agg (cn .u8 Y)), (3, .agg (cn .u8 Z))]) => ?_
  have hx1 := hX.1
  have hy1 := hY.1
  have hz1 := hZ.1
  refine wp_seq (rg_c FF MM [(0, s_ 0 (.cells (cn .u8 X) 23)), (0, s_ 0 (.cells (cn .u8 Y) 23)), (0, s_ 0 (.cells (cn .u8 Z) 23)), (0, s_ 0 (.cells (cn .u8 (List.replicate 32 0)) 23))] 9 [] [1, 2, 3] (⟨(by kernel_rfl), fun bx => ⟨(by kernel_rfl), fun by_ => ⟨(by kernel_rfl), fun bz => ⟨(by kernel_rfl), fun br => fun _ _ FF1 MM1 => then_n ?_⟩⟩⟩⟩))
  refine wp_seq (rg_draw FF1 MM1 [.inl (sB L), .inl (.slice (some ⟨bx, 0, none⟩) 32 32), .inl (sB X), .inl (.slice (some ⟨by_, 0, none⟩) 32 32), .inl (sB Y), .inl (.slice (some ⟨bz, 0, none⟩) 32 32), .inl (sB Z), .inr (oC #[sB X, sB Y, sB Z] 9, fun b => .slice (some ⟨b, 0, none⟩) 3 3), .inl (.agg (cn .u8 (shaN (packN [L] ++ packN ([X, Y, Z])))))] [] [o_, o_, l_ 3 (sB X), o_, l_ 2 (sB Y), o_, l_ 1 (sB Z), o_, u_ 1 (.agg (cn .u8 (shaN (packN [L] ++ packN ([X, Y, Z])))))] [b_ 0] [8] (fun nb => [0 ≤ 32, 32 ≤ 32, 0 < 32, bx = bx, StrAt (cn .u8 X) 0 32 (bs X), 0 ≤ 32, 32 ≤ 32, 0 < 32, by_ = by_, StrAt (cn .u8 Y) 0 32 (bs Y), 0 ≤ 32, 32 ≤ 32, 0 < 32, bz = bz, StrAt (cn .u8 Z) 0 32 (bs Z), CallP Tryz.prog 45 [sB L, .slice (some ⟨(nb 7), 0, none⟩) 3 3] [((nb 7), oC #[sB X, sB Y, sB Z] 9), (br, .cells (cn .u8 (List.replicate 32 0)) 23), (bz, .cells (cn .u8 Z) 23), (by_, .cells (cn .u8 Y) 23), (bx, .cells (cn .u8 X) 23), (0, .cells (cn .u32 kTab) Tg fg)] (.agg (cn .u8 (shaN (packN [L] ++ packN ([X, Y, Z])))))]) (fun nb Kt => br = br ∧ (cn .u8 (List.replicate 32 0)).size = 32 ∧ (cn .u8 (shaN (packN [L] ++ packN ([X, Y, Z])))).size = 32 ∧ (cn .u8 (shaN (packN [L] ++ packN ([X, Y, Z])))).all (·.oneCell') = true ∧ (0, 0).2 = 0 ∧ Kt [(8, pT br)] [(br, .cells (cn .u8 (shaN (packN [L] ++ packN ([X, Y, Z])))) 23), (bz, .cells (cn .u8 Z) 23), (by_, .cells (cn .u8 Y) 23), (bx, .cells (cn .u8 X) 23), (0, .cells (cn .u32 kTab) Tg fg)]) (by kernel_rfl) (by kernel_rfl) (by kernel_rfl) (fun _ => by kernel_rfl) (fun _ _ => by kernel_rfl) trivial (fun nb => ⟨by decide, by decide, by decide, rfl, (str_all hX.1 hX.2), by decide, by decide, by decide, rfl, (str_all hY.1 hY.2), by decide, by decide, by decide, rfl, (str_all hZ.1 hZ.2), ⟨en_key, fun w Hw => key_any Tg fg L hL ([X, Y, Z]) (lt3t hX.2 hY.2 hZ.2) (by simp only [packN_len, List.length_cons, List.length_nil, List.flatten_cons, List.flatten_nil, List.append_nil, List.length_append]; omega) (some ⟨(nb 7), 0, none⟩) 3 w (.inr ⟨(nb 7), 0, _, _, _, rfl, Hw 0 _ rfl, (at3s X Y Z)⟩) (Hw 5 _ rfl)⟩, trivial⟩) (fun nb => ⟨rfl, ((cn_size _ _).trans (List.length_replicate ..)), ((cn_size _ _).trans (shaN_bytes _).len), (cn_one _ _), rfl, fun _ _ FF2 MM2 => then_n ?_⟩))
  refine wp_ret ?_
  repeat first | refine then_ret ?_ | refine inb_ret ?_
  exact (retc FF2 MM2 (k := 32) (i := 0) (j := 0) Tryz.results24 rfl rfl Tryz.underlying23 rfl (by kernel_rfl) ((cn_size _ _).trans (shaN_bytes _).len) ⟨rfl, MM2.below1 4 rfl hg⟩)
set_option maxRecDepth 100000 in
theorem tnon_any (r : Nat) (hr : r < 18446744073709551616) (w0 : World) :
    Calls Tryz.prog 34 #[iW r] w0 fun e w' => e = .returned (.agg (cn .u8 (nonN 3 r))) ∧ Below w0.heap.size w0 w' := by
  refine enter_fr Tryz.func34 rfl Tryz.ntmps34 (by simp) fun ac (FF : Fr 5 ac [(0, iW r)]) => ?_
  have MM := MemS.start w0
  refine wp_seq (rg_c FF MM [(0, s_ 0 (.cells (cn .u8 (List.replicate 12 0)) 56))] 3 [] [] (⟨(by kernel_rfl), fun bo => fun _ _ FF1 MM1 => then_n ?_⟩))
  refine wp_seq (rg_c FF1 MM1 [(1, t_ (.agg (cn .u8 (nonN 3 r)))), (0, b_ 0)] 0 [2] [] (⟨(callP_of en_nonce (nonce_any 3 r (by decide) (by have := hr; omega)) _), rfl, ((cn_size _ _).trans (List.length_replicate ..)), ((cn_size _ _).trans (nonN_len _ _)), (cn_one _ _), rfl, fun _ _ FF2 MM2 => then_n ?_⟩))
  refine wp_ret ?_
  repeat first | refine then_ret ?_ | refine inb_ret ?_
  exact (retc FF2 MM2 (k := 12) (i := 0) (j := 0) Tryz.results34 rfl rfl Tryz.underlying56 rfl (by kernel_rfl) ((cn_size _ _).trans (nonN_len _ _)) ⟨rfl, MM2.below⟩)
set_option maxRecDepth 100000 in
theorem tname_any (Tg : TypeId) (fg : Nat × Nat) (R : List Nat) (r : Nat) (hR : BytesK 32 R) (hr : r < 18446744073709551616) (w0 : World) (hg : w0.heap[0]? = some (.cells (cn .u32 kTab) Tg fg)) :
    Calls Tryz.prog 8 #[.agg (cn .u8 R), iW r] w0 fun e w' => e = .returned (.agg (cn .u8 (nmN R r))) ∧ Below w0.heap.size w0 w' := by
  have MM := MemS.start1 hg
  refine enter_fr Tryz.func8 rfl Tryz.ntmps8 (by simp) fun ac (FF : Fr 11 ac [(0, .agg (cn .u8 R)), (1, iW r)]) => ?_
  have hr1 := hR.1
  refine wp_seq (rg_c FF MM [(0, s_ 0 (.cells (cn .u8 R) 23)), (0, s_ 0 (.cells (cn .u8 (List.replicate 16 0)) 32))] 5 [] [0] (⟨(by kernel_rfl), fun bq => ⟨(by kernel_rfl), fun br => fun _ _ FF1 MM1 => then_n ?_⟩⟩))
  refine wp_seq (rg_draw FF1 MM1 [.inl (.slice (some ⟨bq, 0, none⟩) 32 32), .inl (sB R), .inl (iW r), .inl (sB (leN 8 r)), .inr (oC #[sB R, sB (leN 8 r)] 9, fun b => .slice (some ⟨b, 0, none⟩) 2 2), .inl (.agg (cn .u8 (idN ([98, 105, 108, 108, 101, 116, 32, 110, 97, 109, 101]) ([R, leN 8 r]))))] [] [o_, l_ 1 (sB R), o_, t_ (sB (leN 8 r)), o_, u_ 1 (.agg (cn .u8 (idN ([98, 105, 108, 108, 101, 116, 32, 110, 97, 109, 101]) ([R, leN 8 r]))))] [b_ 0] [4] (fun nb => [0 ≤ 32, 32 ≤ 32, 0 < 32, bq = bq, StrAt (cn .u8 R) 0 32 (bs R), CallP Tryz.prog 27 [iW r] [] (sB (leN 8 r)), CallP Tryz.prog 26 [sB ([98, 105, 108, 108, 101, 116, 32, 110, 97, 109, 101]), .slice (some ⟨(nb 4), 0, none⟩) 2 2] [((nb 4), oC #[sB R, sB (leN 8 r)] 9), (br, .cells (cn .u8 (List.replicate 16 0)) 32), (bq, .cells (cn .u8 R) 23), (0, .cells (cn .u32 kTab) Tg fg)] (.agg (cn .u8 (idN ([98, 105, 108, 108, 101, 116, 32, 110, 97, 109, 101]) ([R, leN 8 r]))))]) (fun nb Kt => br = br ∧ (cn .u8 (List.replicate 16 0)).size = 16 ∧ (cn .u8 (idN ([98, 105, 108, 108, 101, 116, 32, 110, 97, 109, 101]) ([R, leN 8 r]))).size = 16 ∧ (cn .u8 (idN ([98, 105, 108, 108, 101, 116, 32, 110, 97, 109, 101]) ([R, leN 8 r]))).all (·.oneCell') = true ∧ (0, 0).2 = 0 ∧ Kt [(4, pT br)] [(br, .cells (cn .u8 (idN ([98, 105, 108, 108, 101, 116, 32, 110, 97, 109, 101]) ([R, leN 8 r]))) 32), (bq, .cells (cn .u8 R) 23), (0, .cells (cn .u32 kTab) Tg fg)]) (by kernel_rfl) (by kernel_rfl) (by kernel_rfl) (fun _ => by kernel_rfl) (fun _ _ => by kernel_rfl) trivial (fun nb => ⟨by decide, by decide, by decide, rfl, (str_all hR.1 hR.2), (callP_of en_round (round_any r (by have := hr; omega)) _), ⟨en_did, fun w Hw => did_any Tg fg ([98, 105, 108, 108, 101, 116, 32, 110, 97, 109, 101]) (lit_lt rfl) ([R, leN 8 r]) (lt2 hR.2 (leN_lt _ _)) (by simp only [packN_len, List.length_cons, List.length_nil, List.flatten_cons, List.flatten_nil, List.append_nil, List.length_append, leN_len]; omega) (some ⟨(nb 4), 0, none⟩) 2 w (.inr ⟨(nb 4), 0, _, _, _, rfl, Hw 0 _ rfl, (at2s R (leN 8 r))⟩) (Hw 3 _ rfl)⟩, trivial⟩) (fun nb => ⟨rfl, ((cn_size _ _).trans (List.length_replicate ..)), ((cn_size _ _).trans (idN_len _ _)), (cn_one _ _), rfl, fun _ _ FF2 MM2 => then_n ?_⟩))
  refine wp_ret ?_
  repeat first | refine then_ret ?_ | refine inb_ret ?_
  exact (retc FF2 MM2 (k := 16) (i := 0) (j := 0) Tryz.results8 rfl rfl Tryz.underlying32 rfl (by kernel_rfl) ((cn_size _ _).trans (idN_len _ _)) ⟨rfl, MM2.below1 2 rfl hg⟩)
set_option maxRecDepth 100000 in
theorem meet_ok (Tg : TypeId) (fg : Nat × Nat) (A B : List Nat) (hA : BytesK 32 A) (hB : BytesK 32 B) (hz : ¬ curveN A B = 0) (w0 : World) (hg : w0.heap[0]? = some (.cells (cn .u32 kTab) Tg fg)) :
    Calls Tryz.prog 6 #[.agg (cn .u8 A), .agg (cn .u8 B)] w0 fun e w' => e = .returned (.tuple #[.agg ((cn .u8 (outN A B)) ++ ((cn .u8 (inN A B)) ++ (cn .u8 (rootN A B)))), iN 0]) ∧ Below w0.heap.size w0 w' := by
  have MM := MemS.start1 hg
  refine enter_fr Tryz.func6 rfl Tryz.ntmps6 (by simp) fun ac (FF : Fr 42 ac [(0, .agg (cn .u8 A)), (1, .agg (cn .u8 B))]) => ?_
  refine wp_seq (rg_c FF MM [(0, s_ 0 (.cells (cn .u8 A) 23)), (0, s_ 0 (.cells (cn .u8 B) 23)), (0, s_ 0 (.cells ((cn .u8 (List.replicate 32 0)) ++ (cn .u8 (List.replicate 32 0)) ++ (cn .u8 (List.replicate 32 0))) 26))] 6 [] [0, 1] (⟨(by kernel_rfl), fun ba => ⟨(by kernel_rfl), fun bb => ⟨(by kernel_rfl), fun bp => fun _ _ FF1 MM1 => then_n ?_⟩⟩⟩))
  refine wp_seq (rg_c FF1 MM1 [(0, b_ 2), (0, b_ 1), (0, t_ (.tuple #[.agg (cn .u8 (ssN A B)), iN 0])), (3, s_ 0 (.cells (cn .u8 (List.replicate 32 0)) 23)), (0, b_ 0)] 8 [] [] (⟨rfl, ((cn_size _ _).trans hA.1), rfl, ((cn_size _ _).trans hB.1), (callP_of en_cshared (by have h0 := cshared_any A B ⟨hA.1, hA.2⟩ ⟨hB.1, hB.2⟩; rw [if_neg hz] at h0; exact h0) _), (by kernel_rfl), fun bs_ => ⟨rfl, ((cn_size _ _).trans (List.length_replicate ..)), ((cn_size _ _).trans (ssN_ok A B).1), (cn_one _ _), rfl, fun _ _ FF2 MM2 => then_n ?_⟩⟩))
  refine wp_seq ?_
  refine wp_seq (rg_c FF2 MM2 [(1, w_ 3)] 8 [18] [] (⟨by decide, fun _ _ FF3 MM3 => then_n ?_⟩))
  refine wp_cond_false (FF3.ev 0 rfl) ?_
  refine wp_skip ?_
  refine then_n ?_
  refine wp_seq (rg_c FF3 MM3 [(0, b_ 3), (0, t_ (.agg (cn .u8 (pbN A)))), (0, s_ 0 (.cells (cn .u8 (List.replicate 32 0)) 23)), (0, b_ 0)] 9 [] [] (⟨rfl, ((cn_size _ _).trans hA.1), (callP_of en_cpub (cpub_any A ⟨hA.1, hA.2⟩) _), (by kernel_rfl), fun bo => ⟨rfl, ((cn_size _ _).trans (List.length_replicate ..)), ((cn_size _ _).trans (pbN_ok A).1), (cn_one _ _), rfl, fun _ _ FF4 MM4 => then_n ?_⟩⟩))
  refine wp_seq (rg_c FF4 MM4 [(0, b_ 0), (0, b_ 3), (0, t_ (.tuple #[.agg (cn .u8 ((rowN (pbN A) B).1)), .agg (cn .u8 ((rowN (pbN A) B).2))])), (3, s_ 0 (.cells (cn .u8 (List.replicate 32 0)) 23)), (0, s_ 0 (.cells (cn .u8 (List.replicate 32 0)) 23)), (0, b_ 1), (0, b_ 0)] 11 [] [] (⟨rfl, ((cn_size _ _).trans (pbN_ok A).1), rfl, ((cn_size _ _).trans hB.1), (callP_of en_row (row_any (pbN A) B ⟨(pbN_ok A).1, (pbN_ok A).2⟩ ⟨hB.1, hB.2⟩) _), (by kernel_rfl), fun bl => ⟨(by kernel_rfl), fun bh => ⟨rfl, ((cn_size _ _).trans (List.length_replicate ..)), ((cn_size _ _).trans (rowN_ok ⟨(pbN_ok A).1, (pbN_ok A).2⟩ ⟨hB.1, hB.2⟩).1.1), (cn_one _ _), rfl, rfl, ((cn_size _ _).trans (List.length_replicate ..)), ((cn_size _ _).trans (rowN_ok ⟨(pbN_ok A).1, (pbN_ok A).2⟩ ⟨hB.1, hB.2⟩).2.1), (cn_one _ _), rfl, fun _ _ FF5 MM5 => then_n ?_⟩⟩⟩))
  refine wp_seq (rg_dc 13 FF5 MM5 [(0, b_ 3), (0, b_ 2), (0, b_ 5), (0, u_ 1 (.agg (cn .u8 (outN A B)))), (0, b_ 3), (0, b_ 5), (0, b_ 2), (0, u_ 1 (.agg (cn .u8 (inN A B)))), (0, b_ 3), (0, b_ 1), (0, b_ 0), (0, u_ 1 (.agg (cn .u8 (rootN A B)))), (0, f_ (.agg ((cn .u8 (outN A B)) ++ ((cn .u8 (inN A B)) ++ (cn .u8 (rootN A B))))))] [(0, b_ 4)] 11 [] [] (⟨rfl, ((cn_size _ _).trans (ssN_ok A B).1), rfl, ((cn_size _ _).trans (pbN_ok A).1), rfl, ((cn_size _ _).trans hB.1), ⟨en_keyof, fun w Hw => keyof_any Tg fg tLab (ssN A B) (pbN A) B (lit_lt (by kernel_rfl)) (by decide) ⟨(ssN_ok A B).1, (ssN_ok A B).2⟩ ⟨(pbN_ok A).1, (pbN_ok A).2⟩ ⟨hB.1, hB.2⟩ w (Hw 7 _ rfl)⟩, rfl, ((cn_size _ _).trans (ssN_ok A B).1), rfl, ((cn_size _ _).trans hB.1), rfl, ((cn_size _ _).trans (pbN_ok A).1), ⟨en_keyof, fun w Hw => keyof_any Tg fg tLab (ssN A B) B (pbN A) (lit_lt (by kernel_rfl)) (by decide) ⟨(ssN_ok A B).1, (ssN_ok A B).2⟩ ⟨hB.1, hB.2⟩ ⟨(pbN_ok A).1, (pbN_ok A).2⟩ w (Hw 7 _ rfl)⟩, rfl, ((cn_size _ _).trans (ssN_ok A B).1), rfl, ((cn_size _ _).trans (rowN_ok ⟨(pbN_ok A).1, (pbN_ok A).2⟩ ⟨hB.1, hB.2⟩).1.1), rfl, ((cn_size _ _).trans (rowN_ok ⟨(pbN_ok A).1, (pbN_ok A).2⟩ ⟨hB.1, hB.2⟩).2.1), ⟨en_keyof, fun w Hw => keyof_any Tg fg dLab (ssN A B) ((rowN (pbN A) B).1) ((rowN (pbN A) B).2) (lit_lt (by kernel_rfl)) (by decide) ⟨(ssN_ok A B).1, (ssN_ok A B).2⟩ ⟨(rowN_ok ⟨(pbN_ok A).1, (pbN_ok A).2⟩ ⟨hB.1, hB.2⟩).1.1, (rowN_ok ⟨(pbN_ok A).1, (pbN_ok A).2⟩ ⟨hB.1, hB.2⟩).1.2⟩ ⟨(rowN_ok ⟨(pbN_ok A).1, (pbN_ok A).2⟩ ⟨hB.1, hB.2⟩).2.1, (rowN_ok ⟨(pbN_ok A).1, (pbN_ok A).2⟩ ⟨hB.1, hB.2⟩).2.2⟩ w (Hw 7 _ rfl)⟩, (build_ok (t := 26) (ps := #[(0, (.tmp 32)), (1, (.tmp 36)), (2, (.tmp 40))]) (by kernel_rfl) rfl (built_fits (pl := [(0, 32), (32, 32), (64, 32)]) (tot := 96) (n := 32) (by kernel_rfl) (by kernel_rfl) (ns := [32, 32]) ⟨rfl, (show (cn .u8 (outN A B)).size = 32 from ((cn_size _ _).trans (outN_ok A B).1)), rfl, (show (cn .u8 (inN A B)).size = 32 from ((cn_size _ _).trans (inN_ok A B).1)), rfl, (show (cn .u8 (rootN A B)).size = 32 from ((cn_size _ _).trans (rootN_ok A B).1)), rfl⟩ (Array.append_assoc (xs := cn .u8 (outN A B))))), rfl, (by simp [cn_size]), (by simp [cn_size, (outN_ok A B).1, (inN_ok A B).1, (rootN_ok A B).1]), (one_app (cn_one _ _) (one_app (cn_one _ _) (cn_one _ _))), rfl, fun _ _ FF6 MM6 => then_n ?_⟩))
  refine wp_ret ?_
  repeat first | refine then_ret ?_ | refine inb_ret ?_
  exact (ret_ct FF6 MM6 (k := 96) (i := 4) (j := 6) (m := 0) Tryz.results6 rfl rfl rfl Tryz.underlying26 rfl (by kernel_rfl) (by simp [cn_size, (outN_ok A B).1, (inN_ok A B).1, (rootN_ok A B).1]) ⟨rfl, MM6.below1 7 rfl hg⟩)
set_option maxRecDepth 100000 in
theorem meet_weak (Tg : TypeId) (fg : Nat × Nat) (A B : List Nat) (hA : BytesK 32 A) (hB : BytesK 32 B) (hz : curveN A B = 0) (w0 : World) (hg : w0.heap[0]? = some (.cells (cn .u32 kTab) Tg fg)) :
    Calls Tryz.prog 6 #[.agg (cn .u8 A), .agg (cn .u8 B)] w0 fun e w' => e = .returned (.tuple #[.agg ((cn .u8 (List.replicate 32 0)) ++ (cn .u8 (List.replicate 32 0)) ++ (cn .u8 (List.replicate 32 0))), iN 2]) ∧ Below w0.heap.size w0 w' := by
  have MM := MemS.start1 hg
  refine enter_fr Tryz.func6 rfl Tryz.ntmps6 (by simp) fun ac (FF : Fr 42 ac [(0, .agg (cn .u8 A)), (1, .agg (cn .u8 B))]) => ?_
  refine wp_seq (rg_c FF MM [(0, s_ 0 (.cells (cn .u8 A) 23)), (0, s_ 0 (.cells (cn .u8 B) 23)), (0, s_ 0 (.cells ((cn .u8 (List.replicate 32 0)) ++ (cn .u8 (List.replicate 32 0)) ++ (cn .u8 (List.replicate 32 0))) 26))] 6 [] [0, 1] (⟨(by kernel_rfl), fun ba => ⟨(by kernel_rfl), fun bb => ⟨(by kernel_rfl), fun bp => fun _ _ FF1 MM1 => then_n ?_⟩⟩⟩))
  refine wp_seq (rg_c FF1 MM1 [(0, b_ 2), (0, b_ 1), (0, t_ (.tuple #[.agg (cn .u8 (ssN A B)), iN 2])), (3, s_ 0 (.cells (cn .u8 (List.replicate 32 0)) 23)), (0, b_ 0)] 8 [] [] (⟨rfl, ((cn_size _ _).trans hA.1), rfl, ((cn_size _ _).trans hB.1), (callP_of en_cshared (by have h0 := cshared_any A B ⟨hA.1, hA.2⟩ ⟨hB.1, hB.2⟩; rw [if_pos hz] at h0; exact h0) _), (by kernel_rfl), fun bs_ => ⟨rfl, ((cn_size _ _).trans (List.length_replicate ..)), ((cn_size _ _).trans (ssN_ok A B).1), (cn_one _ _), rfl, fun _ _ FF2 MM2 => then_n ?_⟩⟩))
  refine wp_seq ?_
  refine wp_seq (rg_c FF2 MM2 [(1, w_ 2)] 8 [18] [] (⟨by decide, fun _ _ FF3 MM3 => then_n ?_⟩))
  refine wp_cond_true (FF3.ev 0 rfl) ?_
  refine wp_seq (rg_c FF3 MM3 [(0, t_ (.agg ((cn .u8 (List.replicate 32 0)) ++ (cn .u8 (List.replicate 32 0)) ++ (cn .u8 (List.replicate 32 0))))), (1, b_ 1)] 8 [] [] (⟨(by kernel_rfl), rfl, (by simp [cn_size]), (by simp [cn_size]), (one_app (one_app (cn_one _ _) (cn_one _ _)) (cn_one _ _)), rfl, fun _ _ FF4 MM4 => then_n ?_⟩))
  refine wp_ret ?_
  repeat first | refine then_ret ?_ | refine inb_ret ?_
  exact (ret_ct FF4 MM4 (k := 96) (i := 1) (j := 3) (m := 0) Tryz.results6 rfl rfl rfl Tryz.underlying26 rfl (by kernel_rfl) (by simp [cn_size]) ⟨rfl, MM4.below1 4 rfl hg⟩)
end Go.Proofs.YtdjpacgjhcidpabGreatDoor
namespace Go.Proofs.YtdjpacgjhcidpabGreatDoor
open Go.RowKit
set_option maxRecDepth 100000 in
theorem idle_nil (r : Nat) (hr : r < 18446744073709551616) (w0 : World) :
    Calls Tryz.prog 16 #[.pointer none, iW r] w0 fun e w' => e = .returned (sB ((List.replicate 16 0) ++ (sealN (List.replicate 32 0) (nonN 3 r) [] (List.replicate 20 0)))) ∧ Below w0.heap.size w0 w' := by
  refine enter_fr Tryz.func16 rfl Tryz.ntmps16 (by simp) fun ac (FF : Fr 24 ac [(0, .pointer none), (1, iW r)]) => ?_
  have MM := MemS.start w0
  refine wp_seq (rg_c FF MM [(0, t_ (sB []))] 5 [] [] (⟨(by kernel_rfl), fun _ _ FF1 MM1 => then_n ?_⟩))
  refine wp_seq (rg_c FF1 MM1 [(1, t_ (.agg (cn .u8 (List.replicate 16 0)))), (0, s_ 0 (.cells (cn .u8 (List.replicate 16 0)) 32)), (0, b_ 0)] 6 [] [] (⟨(callP_of en_tid tid_nil _), (by kernel_rfl), fun bi => ⟨rfl, ((cn_size _ _).trans (List.length_replicate ..)), ((cn_size _ _).trans (List.length_replicate ..)), (cn_one _ _), rfl, fun _ _ FF2 MM2 => then_n ?_⟩⟩))
  refine wp_seq (rg_c FF2 MM2 [(1, t_ (.agg (cn .u8 (List.replicate 32 0)))), (1, t_ (.agg (cn .u8 (nonN 3 r)))), (0, t_ (sB (List.replicate 20 0))), (0, t_ (sB (sealN (List.replicate 32 0) (nonN 3 r) [] (List.replicate 20 0))))] 7 [] [1] (⟨(callP_of en_tkey tkey_nil _), (callP_of en_tnon (tnon_any r (by have := hr; omega)) _), (callP_of en_repeat (repeat0_any 20 (by decide)) _), (callP_of en_Seal (seal_any (List.replicate 32 0) (nonN 3 r) ⟨(List.length_replicate ..), (rep0_lt)⟩ ⟨(nonN_len _ _), (nonN_lt _ _)⟩ [] (List.replicate 20 0) (lit_lt (by kernel_rfl)) (rep0_lt (by decide)) (by decide) (by rw [List.length_replicate]; decide)) _), fun _ _ FF3 MM3 => then_n ?_⟩))
  refine wp_seq (rg_c FF3 MM3 [(0, b_ 0), (1, t_ (.tuple #[sB ((List.replicate 16 0) ++ (sealN (List.replicate 32 0) (nonN 3 r) [] (List.replicate 20 0))), iN 0]))] 6 [7] [] (⟨rfl, ((cn_size _ _).trans (List.length_replicate ..)), (callP_of en_request (fun w => by have h0 := request_any (List.replicate 16 0) (List.length_replicate ..) (rep0_lt) (sealN (List.replicate 32 0) (nonN 3 r) [] (List.replicate 20 0)) w; rw [requestR_ok (by rw [sealN_len, List.length_replicate])] at h0; exact h0) _), fun _ _ FF4 MM4 => then_n ?_⟩))
  refine wp_seq (rg_c FF4 MM4 [] 6 [] [] (fun _ _ FF5 MM5 => then_n ?_))
  refine wp_ret ?_
  repeat first | refine then_ret ?_ | refine inb_ret ?_
  exact (ret_fr FF5 0 Tryz.results16 rfl ⟨rfl, MM5.below⟩)
set_option maxRecDepth 100000 in
theorem say_real {b m1 m2 m3 : Nat} (Tg : TypeId) (fg : Nat × Nat) (O I_ R X : List Nat) (r : Nat) (hO : BytesK 32 O) (hI : BytesK 32 I_) (hR : BytesK 32 R) (hr : r < 18446744073709551616) (hX : ∀ i, X.getD i 0 < 256) (hl : X.length ≤ 19) (w0 : World) (H : Has w0 [(b, oC #[.bool false, .pointer none, .map (some m1), .map (some m2), .map (some m3), iN 0] 73), (m1, KM []), (m2, KM []), (m3, NM []), (0, Obj.cells (cn .u32 kTab) Tg fg)]) (hD : Distinct [(b, oC #[.bool false, .pointer none, .map (some m1), .map (some m2), .map (some m3), iN 0] 73), (m1, KM []), (m2, KM []), (m3, NM []), (0, Obj.cells (cn .u32 kTab) Tg fg)]) :
    Calls Tryz.prog 12 #[pT b, .agg ((cn .u8 O) ++ ((cn .u8 I_) ++ (cn .u8 R))), .bool true, iW r, sB X] w0 fun e w' => e = .returned (.tuple #[sB ((nmN R r) ++ (sealN O (nonN 3 r) [] (bodyN X))), iN 0]) ∧ TurnB [(m1, KM (shareK false 32 I_ (shareK false 32 O [] []) [])), (m3, NM (noteP false O (nonN 3 r) (shareK false 32 I_ (shareK false 32 O [] []) []) (bodyN X) []))] w0 w' := by
  refine enter_fr Tryz.func12 rfl Tryz.ntmps12 (by simp) fun ac (FF : Fr 52 ac [(0, pT b), (1, .agg ((cn .u8 O) ++ ((cn .u8 I_) ++ (cn .u8 R)))), (2, .bool true), (3, iW r), (4, sB X)]) => ?_
  have MM : MemS (fun k => k < w0.heap.size ∧ ∀ x ∈ [(b, oC #[.bool false, .pointer none, .map (some m1), .map (some m2), .map (some m3), iN 0] 73), (m1, KM []), (m2, KM []), (m3, NM []), (0, .cells (cn .u32 kTab) Tg fg)], x.1 ≠ k) w0 w0 [(b, oC #[.bool false, .pointer none, .map (some m1), .map (some m2), .map (some m3), iN 0] 73), (m1, KM []), (m2, KM []), (m3, NM []), (0, .cells (cn .u32 kTab) Tg fg)] [] := MemS.startN H hD
  have hbl := bodyN_len hl
  have hbt := bodyN_lt hX hl
  refine wp_seq (rg_c FF MM [(0, s_ 0 (.cells ((cn .u8 O) ++ ((cn .u8 I_) ++ (cn .u8 R))) 26)), (0, t_ (sB []))] 12 [] [1] (⟨(by kernel_rfl), fun bp => ⟨(by kernel_rfl), fun _ _ FF1 MM1 => then_n ?_⟩⟩))
  refine wp_seq (rg_c FF1 MM1 [(1, t_ (.tuple #[sB (bodyN X), iN 0]))] 14 [] [4] (⟨(callP_of en_body (fun w => by have h0 := body_any X hX w; rw [bodyR_ok hl] at h0; exact h0) _), fun _ _ FF2 MM2 => then_n ?_⟩))
  refine wp_seq ?_
  refine wp_seq (rg_c FF2 MM2 [(1, w_ 3)] 14 [21] [] (⟨by decide, fun _ _ FF3 MM3 => then_n ?_⟩))
  refine wp_cond_false (FF3.ev 0 rfl) ?_
  refine wp_skip ?_
  refine then_n ?_
  refine wp_seq (rg_c FF3 MM3 [(1, l_ 0 (.agg (cn .u8 R))), (1, u_ 1 (.agg (cn .u8 (nmN R r)))), (0, s_ 0 (.cells (cn .u8 (List.replicate 16 0)) 32)), (0, b_ 0)] 15 [] [] (⟨rfl, (part_r 32 ((cn_size _ _).trans hO.1) rfl (part_r 0 ((cn_size _ _).trans hI.1) rfl (part_whole _))), ((cn_size _ _).trans hR.1), ⟨en_tname, fun w Hw => tname_any Tg fg R r ⟨hR.1, hR.2⟩ (by have := hr; omega) w (Hw 5 _ rfl)⟩, (by kernel_rfl), fun bn => ⟨rfl, ((cn_size _ _).trans (List.length_replicate ..)), ((cn_size _ _).trans (nmN_ok R r).1), (cn_one _ _), rfl, fun _ _ FF4 MM4 => then_n ?_⟩⟩))
  refine wp_seq ?_
  refine wp_seq (rg_c FF4 MM4 [] 28 [] [2] (fun _ _ FF5 MM5 => then_n ?_))
  refine wp_cond_true (FF5.ev 0 rfl) ?_
  refine wp_seq (rg_c FF5 MM5 [(2, l_ 1 (.agg (cn .u8 O))), (0, c_ (.tuple #[]) [(3, KM (shareK false 32 O [] []))])] 15 [] [] (⟨rfl, (part_l (part_whole _)), ((cn_size _ _).trans hO.1), (callU_B [2, 3] en_pshare rfl rfl (fun w Hw => pshare_real (K := O) (okP_nil _) ⟨hO.1, hO.2⟩ w Hw (distinct_names rfl (distinct_at MM5.distinct (is := [2, 3]) rfl rfl)))), fun _ _ FF6 MM6 => then_n ?_⟩))
  refine wp_seq (rg_c FF6 MM6 [(2, l_ 1 (.agg (cn .u8 I_))), (0, c_ (.tuple #[]) [(3, KM (shareK false 32 I_ (shareK false 32 O [] []) []))])] 15 [] [] (⟨rfl, (part_r 0 ((cn_size _ _).trans hO.1) rfl (part_l (part_whole _))), ((cn_size _ _).trans hI.1), (callU_B [2, 3] en_pshare rfl rfl (fun w Hw => pshare_real (K := I_) (share_ok false (okP_nil 32) hO (lit_lt (by kernel_rfl))) ⟨hI.1, hI.2⟩ w Hw (distinct_names rfl (distinct_at MM6.distinct (is := [2, 3]) rfl rfl)))), fun _ _ FF7 MM7 => then_n ?_⟩))
  refine rg_c FF7 MM7 [(1, b_ 0), (0, u_ 1 (.tuple #[]))] 15 [] [] (⟨rfl, ((cn_size _ _).trans (nmN_ok R r).1), (callP_B [2] en_pshareid rfl (fun w Hw => pshareid_real (K := (nmN R r)) ⟨(nmN_ok R r).1, (nmN_ok R r).2⟩ w Hw (distinct_names rfl (distinct_at MM7.distinct (is := [2]) rfl rfl)))), fun _ _ FF8 MM8 => ?_⟩)
  refine then_n ?_
  refine wp_seq (late_stand (N := 15) [(bp, .cells ((cn .u8 O) ++ ((cn .u8 I_) ++ (cn .u8 R))) 26), (bn, .cells (cn .u8 (nmN R r)) 32), (0, .cells (cn .u32 kTab) Tg fg)] (by kernel_rfl) (by kernel_rfl) MM8 fun wq9 MM10 => ?_)
  refine late_take FF8 (i := 0) (oi := (opAt Tryz.f12 9 0)) (v := (pT b)) (d := 39) (atL_has (is := [1, 0, 6]) rfl MM10.hasL) (by kernel_rfl) (by kernel_rfl) (by kernel_rfl) (by kernel_rfl) (by kernel_rfl) (fun _ _ _ _ _ h => h) (by kernel_rfl) (by decide) (by kernel_rfl) (mvV (x := (.tmp 0)) (by kernel_rfl) rfl) fun _ FF11 => ?_
  refine late_take FF11 (i := 1) (oi := (opAt Tryz.f12 9 1)) (v := (.agg (cn .u8 (nmN R r)))) (d := 40) (atL_has (is := [1, 0, 6]) rfl MM10.hasL) (by kernel_rfl) (by kernel_rfl) (by kernel_rfl) (by kernel_rfl) (by kernel_rfl) (fun _ _ _ _ _ h => h) (by kernel_rfl) (by decide) (by kernel_rfl) (loadRi (x := (.tmp 14)) (k := 1) (m := 16) (by kernel_rfl) rfl Tryz.underlying32 rfl (by kernel_rfl) rfl ((cn_size _ _).trans (nmN_ok R r).1)) fun _ FF12 => ?_
  refine late_take FF12 (i := 3) (oi := (opAt Tryz.f12 9 3)) (v := (pT b)) (d := 42) (atL_has (is := [1, 0, 6]) rfl MM10.hasL) (by kernel_rfl) (by kernel_rfl) (by kernel_rfl) (by kernel_rfl) (by kernel_rfl) (fun _ _ _ _ _ h => h) (by kernel_rfl) (by decide) (by kernel_rfl) (mvV (x := (.tmp 0)) (by kernel_rfl) rfl) fun _ FF13 => ?_
  refine late_take FF13 (i := 4) (oi := (opAt Tryz.f12 9 4)) (v := (pT bp)) (d := 43) (atL_has (is := [1, 0, 6]) rfl MM10.hasL) (by kernel_rfl) (by kernel_rfl) (by kernel_rfl) (by kernel_rfl) (by kernel_rfl) (fun _ _ _ _ _ h => h) (by kernel_rfl) (by decide) (by kernel_rfl) (fldV (x := (.tmp 6)) (t := 26) (k := 0) (cs := []) (by kernel_rfl) rfl (by kernel_rfl)) fun _ FF14 => ?_
  refine late_take FF14 (i := 5) (oi := (opAt Tryz.f12 9 5)) (v := (.agg (cn .u8 O))) (d := 44) (atL_has (is := [1, 0, 6]) rfl MM10.hasL) (by kernel_rfl) (by kernel_rfl) (by kernel_rfl) (by kernel_rfl) (by kernel_rfl) (fun _ _ _ _ _ h => h) (by kernel_rfl) (by decide) (by kernel_rfl) (loadPi (x := (.tmp 43)) (k := 0) (m := 32) (by kernel_rfl) rfl Tryz.underlying23 rfl (by kernel_rfl) rfl (part_l (part_whole _)) ((cn_size _ _).trans hO.1)) fun _ FF15 => ?_
  refine late_take FF15 (i := 6) (oi := (opAt Tryz.f12 9 6)) (v := (iW r)) (d := 45) (atL_has (is := [1, 0, 6]) rfl MM10.hasL) (by kernel_rfl) (by kernel_rfl) (by kernel_rfl) (by kernel_rfl) (by kernel_rfl) (fun _ _ _ _ _ h => h) (by kernel_rfl) (by decide) (by kernel_rfl) (mvV (x := (.tmp 3)) (by kernel_rfl) rfl) fun _ FF16 => ?_
  refine late_take FF16 (i := 8) (oi := (opAt Tryz.f12 9 8)) (v := (sB (bodyN X))) (d := 47) (atL_has (is := [1, 0, 6]) rfl MM10.hasL) (by kernel_rfl) (by kernel_rfl) (by kernel_rfl) (by kernel_rfl) (by kernel_rfl) (fun _ _ _ _ _ h => h) (by kernel_rfl) (by decide) (by kernel_rfl) (mvV (x := (.tmp 12)) (by kernel_rfl) rfl) fun _ FF17 => ?_
  refine late_one (i := 2) (oi := (opAt Tryz.f12 9 2)) (by kernel_rfl) (by kernel_rfl) ?_
  refine rp_c 1 FF17 MM10 [(0, u_ 1 (.agg (cn .u8 (nmN R r))))] 48 [] [43, 40, 39, 12] (⟨(callP_B [2, 4] en_pID rfl (fun w Hw => by have h0 := pID_any (K := (nmN R r)) (okP_nil _) ⟨(nmN_ok R r).1, (nmN_ok R r).2⟩ w Hw (distinct_names rfl (distinct_at MM10.distinct (is := [2, 4]) rfl rfl)); rw [own_real (ownI_nil false)] at h0; exact h0)), fun _ _ FF18 MM18 => ?_⟩)
  refine wpl_nil (onN_n ⟨fun _ => (atL_has (is := [1, 0, 6]) rfl MM18.hasL), ?_⟩)
  refine late_one (i := 7) (oi := (opAt Tryz.f12 9 7)) (by kernel_rfl) (by kernel_rfl) ?_
  refine rp_c 1 FF18 MM18 [(0, t_ (.agg (cn .u8 (nonN 3 r))))] 48 [] [45] (⟨(callP_of en_tnon (tnon_any r (by have := hr; omega)) _), fun _ _ FF19 MM19 => ?_⟩)
  refine wpl_nil (onN_n ⟨fun _ => (atL_has (is := [1, 0, 6]) rfl MM19.hasL), ?_⟩)
  refine late_one (i := 9) (oi := (opAt Tryz.f12 9 9)) (by kernel_rfl) (by kernel_rfl) ?_
  refine rp_c 1 FF19 MM19 [(0, c_ (sB (sealN O (nonN 3 r) [] (bodyN X))) [(5, NM (noteP false O (nonN 3 r) (shareK false 32 I_ (shareK false 32 O [] []) []) (bodyN X) []))])] 42 [48] [] (⟨(callU_B [2, 3, 5] en_pseal rfl rfl (fun w Hw => by have h0 := pseal_any (K := O) (share_ok false (share_ok false (okP_nil 32) hO (lit_lt (by kernel_rfl))) hI (lit_lt (by kernel_rfl))) ⟨hO.1, hO.2⟩ okQ_nil (N := (nonN 3 r)) (Y := (bodyN X)) ⟨(nonN_len _ _), (nonN_lt _ _)⟩ hbt (by rw [hbl]; decide) (OwnI.share ((ownI_nil false).share []) []).get w Hw (distinct_names rfl (distinct_at MM19.distinct (is := [2, 3, 5]) rfl rfl)); rw [real_box] at h0; exact h0)), fun _ _ FF20 MM20 => ?_⟩)
  refine wpl_nil (onN_n ⟨fun _ => (atL_has (is := [1, 0, 6]) rfl MM20.hasL), ?_⟩)
  refine late_one (i := 10) (oi := (opAt Tryz.f12 9 10)) (by kernel_rfl) (by kernel_rfl) ?_
  refine rp_c 1 FF20 MM20 [(0, t_ (.tuple #[sB ((nmN R r) ++ (sealN O (nonN 3 r) [] (bodyN X))), iN 0]))] 15 [49] [] (⟨(callP_of en_request (fun w => by have h0 := request_any (nmN R r) (nmN_ok R r).1 (nmN_ok R r).2 (sealN O (nonN 3 r) [] (bodyN X)) w; rw [requestR_ok (by rw [sealN_len, hbl])] at h0; exact h0) _), fun _ _ FF21 MM21 => ?_⟩)
  refine wpl_nil (onN_n ⟨fun _ => (atL_has (is := [1, 0, 6]) rfl MM21.hasL), ?_⟩)
  refine late_take FF21 (i := 11) (oi := (opAt Tryz.f12 9 11)) (v := (sB ((nmN R r) ++ (sealN O (nonN 3 r) [] (bodyN X))))) (d := 50) (atL_has (is := [1, 0, 6]) rfl MM21.hasL) (by kernel_rfl) (by kernel_rfl) (by kernel_rfl) (by kernel_rfl) (by kernel_rfl) (fun _ _ _ _ _ h => h) (by kernel_rfl) (by decide) (by kernel_rfl) (extV (x := (.tmp 49)) (i := 0) (by kernel_rfl) rfl rfl) fun _ FF22 => ?_
  refine late_take FF22 (i := 12) (oi := (opAt Tryz.f12 9 12)) (v := (iN 0)) (d := 51) (atL_has (is := [1, 0, 6]) rfl MM21.hasL) (by kernel_rfl) (by kernel_rfl) (by kernel_rfl) (by kernel_rfl) (by kernel_rfl) (fun _ _ _ _ _ h => h) (by kernel_rfl) (by decide) (by kernel_rfl) (extV (x := (.tmp 49)) (i := 1) (by kernel_rfl) rfl rfl) fun _ FF23 => ?_
  refine late_one (i := 13) (oi := (opAt Tryz.f12 9 13)) (by kernel_rfl) (by kernel_rfl) ?_
  refine rp_c 1 FF23 MM21 [] 15 [51] [] (fun _ _ FF24 MM24 => ?_)
  refine wpl_nil (onN_n ⟨fun _ => (atL_has (is := [1, 0, 6]) rfl MM24.hasL), ?_⟩)
  refine late_one (i := 14) (oi := (opAt Tryz.f12 9 14)) (by kernel_rfl) (by kernel_rfl) ?_
  refine rp_c 1 FF24 MM24 [] 15 [] [] (fun _ _ FF25 MM25 => ?_)
  refine wpl_nil (onN_n ⟨fun _ => (atL_has (is := [1, 0, 6]) rfl MM25.hasL), ?_⟩)
  refine late_none (by kernel_rfl) (then_n ?_)
  refine wp_ret ?_
  repeat first | refine then_ret ?_ | refine inb_ret ?_
  exact (ret_tup2 FF25 1 0 Tryz.results12 rfl rfl ⟨rfl, MM25.turnB [(m1, KM (shareK false 32 I_ (shareK false 32 O [] []) [])), (m3, NM (noteP false O (nonN 3 r) (shareK false 32 I_ (shareK false 32 O [] []) []) (bodyN X) []))] H (List.forall_mem_cons.2 ⟨(List.mem_of_getElem? (i := 3) rfl), (List.forall_mem_cons.2 ⟨(List.mem_of_getElem? (i := 5) rfl), (fun _ h => (nomatch h))⟩)⟩) (List.forall_mem_cons.2 ⟨.inl (List.mem_of_getElem? (i := 2) rfl), (List.forall_mem_cons.2 ⟨.inr ⟨_, (List.mem_of_getElem? (i := 0) rfl), rfl⟩, (List.forall_mem_cons.2 ⟨.inl (List.mem_of_getElem? (i := 4) rfl), (List.forall_mem_cons.2 ⟨.inr ⟨_, (List.mem_of_getElem? (i := 1) rfl), rfl⟩, (List.forall_mem_cons.2 ⟨.inl (List.mem_of_getElem? (i := 6) rfl), (fun _ h => (nomatch h))⟩)⟩)⟩)⟩)⟩)⟩)
set_option maxRecDepth 100000 in
theorem hear_nil (O I_ R X Z : List Nat) (r : Nat) (hO : BytesK 32 O) (hI : BytesK 32 I_) (_hR : BytesK 32 R) (hr : r < 18446744073709551616) (hX : ∀ i, X.getD i 0 < 256) (hl : X.length ≤ 19) (hZ : ∀ i, Z.getD i 0 < 256) (hZl : Z.length ≤ 1000000) (ho : opensN I_ (nonN 3 r) [] Z ∧ plainN I_ (nonN 3 r) Z = bodyN X) (w0 : World) :
    Calls Tryz.prog 14 #[.pointer none, .agg ((cn .u8 O) ++ ((cn .u8 I_) ++ (cn .u8 R))), iW r, sB Z] w0 fun e w' => e = .returned (.tuple #[sB X, .bool true]) ∧ Below w0.heap.size w0 w' := by
  refine enter_fr Tryz.func14 rfl Tryz.ntmps14 (by simp) fun ac (FF : Fr 28 ac [(0, .pointer none), (1, .agg ((cn .u8 O) ++ ((cn .u8 I_) ++ (cn .u8 R)))), (2, iW r), (3, sB Z)]) => ?_
  have MM := MemS.start w0
  have hbt := bodyN_lt hX hl
  refine wp_seq (rg_c FF MM [(0, s_ 0 (.cells ((cn .u8 O) ++ ((cn .u8 I_) ++ (cn .u8 R))) 26)), (0, t_ (sB []))] 9 [9] [1] (⟨(by kernel_rfl), fun bp => ⟨(by kernel_rfl), fun _ _ FF1 MM1 => then_n ?_⟩⟩))
  refine wp_seq (rg_dc 12 FF1 MM1 [(2, l_ 0 (.agg (cn .u8 I_))), (1, t_ (.agg (cn .u8 (nonN 3 r)))), (1, t_ (.tuple #[sB (bodyN X), .bool true]))] [] 12 [] [5, 0, 2, 3] (⟨rfl, (part_r 0 ((cn_size _ _).trans hO.1) rfl (part_l (part_whole _))), ((cn_size _ _).trans hI.1), (callP_of en_tnon (tnon_any r (by have := hr; omega)) _), (callP_of en_popen (fun w => by have h0 := popen_nil_yes I_ (nonN 3 r) Z ⟨hI.1, hI.2⟩ ⟨(nonN_len _ _), (nonN_lt _ _)⟩ hZ hZl ho.1 w; rw [ho.2] at h0; exact h0) _), fun _ _ FF2 MM2 => then_n ?_⟩))
  refine wp_seq ?_
  refine wp_seq (rg_c FF2 MM2 [] 11 [23] [] (fun _ _ FF3 MM3 => then_n ?_))
  refine wp_cond_false (FF3.ev 0 rfl) ?_
  refine wp_skip ?_
  refine then_n ?_
  refine wp_seq (rg_c FF3 MM3 [(1, t_ (.tuple #[sB X, .bool true]))] 9 [9] [] (⟨(callP_of en_text (fun w => by have h0 := text_any (bodyN X) hbt w; rw [text_body hl] at h0; exact h0) _), fun _ _ FF4 MM4 => then_n ?_⟩))
  refine wp_ret ?_
  repeat first | refine then_ret ?_ | refine inb_ret ?_
  exact (ret_tup2 FF4 1 0 Tryz.results14 rfl rfl ⟨rfl, MM4.below⟩)
end Go.Proofs.YtdjpacgjhcidpabGreatDoor
