/- Several texts in one: ChaCha20: turns, the quarter round, words, what is laid. ChaCha20: the rounds. ChaCha20: a block. ChaCha20: bytes turned by a block. ChaCha20: the mask. Package aead: the walks. Package book: maps; Shared, Key, ID, Share, ShareID. Package book: Seal. -/
import Derived.Test.YtdjpacgjhcidpabGreatDoorZ6
import Derived.Laws.Small
import Derived.Test.YtdjpacgjhcidpabGreatDoorZ3
import Derived.ChangeMaps4
import Derived.Test.YtdjpacgjhcidpabGreatDoorZ4
import Derived.Shelf.Strings.Repeat
namespace Go.Proofs.YtdjpacgjhcidpabGreatDoor
open Go.RowKit
theorem en_crotl : Enters Tryz.prog 116 := fun args w => by simp [go_sem]
theorem en_quarter : Enters Tryz.prog 109 := fun args w => by simp [go_sem]
theorem en_cword : Enters Tryz.prog 91 := fun args w => by simp [go_sem]
theorem en_laid : Enters Tryz.prog 67 := fun args w => by simp [go_sem]
theorem en_stirred : Enters Tryz.prog 92 := fun args w => by simp [go_sem]
theorem en_cblk : Enters Tryz.prog 69 := fun args w => by simp [go_sem]
theorem en_cturn : Enters Tryz.prog 68 := fun args w => by simp [go_sem]
set_option maxRecDepth 100000 in
theorem crotl_w (x n : Nat) (hx : x < 4294967296) (h0 : 0 < n) (hn : n < 32) (w0 : World) :
    Calls Tryz.prog 116 #[.int .u32 (x : Nat), iN n] w0 fun e w' => e = .returned (.int .u32 (rN (2 ^ n) (2 ^ (32 - n)) x : Nat)) ∧ Below w0.heap.size w0 w' := by
  refine enter_fr Tryz.func116 rfl Tryz.ntmps116 (by simp) fun ac (FF : Fr 17 ac [(0, .int .u32 (x : Nat)), (1, iN n)]) => ?_
  have MM := MemS.start w0
  refine wp_seq (rg_c FF MM [] 5 [] [] (fun _ _ FF1 MM1 => then_n ?_))
  refine wp_seq (rg_c FF1 MM1 [(2, t_ (iW n))] 6 [] [1] (⟨(by have := h0; have := hn; omega), by decide, (vI ((and_low 5 _).trans (by omega))), fun _ _ FF2 MM2 => then_n ?_⟩))
  refine wp_seq (rg_c FF2 MM2 [(5, u_ 1 (iW (32 - n))), (1, t_ (.int .u32 (rN (2 ^ n) (2 ^ (32 - n)) x : Nat)))] 0 [4] [] (⟨by omega, by omega, rfl, (by show _ ≤ 32; have := hx; omega), (Nat.mod_lt _ (by decide)), (Nat.lt_of_le_of_lt (Nat.div_le_self _ _) hx), rfl, fun _ _ FF3 MM3 => then_n ?_⟩))
  refine wp_ret ?_
  repeat first | refine then_ret ?_ | refine inb_ret ?_
  exact (ret_fr FF3 0 Tryz.results116 rfl ⟨rfl, MM3.below⟩)
theorem crotl_any (x n m d : Nat) (hx : x < 4294967296) (h0 : 0 < n) (hn : n < 32) (hm : 2 ^ n = m) (hd : 2 ^ (32 - n) = d) (w : World) : Calls Tryz.prog 116 #[.int .u32 (x : Nat), iN n] w fun e w' => e = .returned (.int .u32 (rN m d x : Nat)) ∧ Below w.heap.size w w' := by
  subst hm hd
  exact crotl_w x n hx h0 hn w
set_option maxRecDepth 100000 in
theorem quarter_any (a b c d : Nat) (hb : b < 4294967296) (hd : d < 4294967296) (w0 : World) :
    Calls Tryz.prog 109 #[.int .u32 (a : Nat), .int .u32 (b : Nat), .int .u32 (c : Nat), .int .u32 (d : Nat)] w0 fun e w' => e = .returned (.tuple #[.int .u32 ((q4 a b c d).a : Nat), .int .u32 ((q4 a b c d).b : Nat), .int .u32 ((q4 a b c d).c : Nat), .int .u32 ((q4 a b c d).d : Nat)]) ∧ Below w0.heap.size w0 w' := by
  refine enter_fr Tryz.func109 rfl Tryz.ntmps109 (by simp) fun ac (FF : Fr 44 ac [(0, .int .u32 (a : Nat)), (1, .int .u32 (b : Nat)), (2, .int .u32 (c : Nat)), (3, .int .u32 (d : Nat))]) => ?_
  have MM := MemS.start w0
  refine wp_seq (rg_c FF MM [] 12 [] [] (fun _ _ FF1 MM1 => then_n ?_))
  obtain ⟨a1, ea1⟩ : ∃ z, (a + b) % 4294967296 = z := ⟨_, rfl⟩
  have ha1 : a1 < 4294967296 := ea1 ▸ (Nat.mod_lt _ (by decide))
  refine wp_seq (rg_c FF1 MM1 [(2, t_ (.int .u32 (a1 : Nat)))] 12 [] [] (⟨(vI ea1), fun _ _ FF2 MM2 => then_n ?_⟩))
  obtain ⟨d1, ed1⟩ : ∃ z, rN 65536 65536 (d ^^^ a1) = z := ⟨_, rfl⟩
  have hd1 : d1 < 4294967296 := ed1 ▸ rN_lt 65536 65536 _ (xor_lt hd ha1)
  refine wp_seq (rg_c FF2 MM2 [(3, t_ (.int .u32 (d1 : Nat)))] 12 [] [] (⟨hd, ha1, (by rw [← ed1]; exact (callP_of en_crotl (crotl_any (d ^^^ a1) 16 65536 65536 (xor_lt hd ha1) (by decide) (by decide) rfl rfl) _)), fun _ _ FF3 MM3 => then_n ?_⟩))
  obtain ⟨c1, ec1⟩ : ∃ z, (c + d1) % 4294967296 = z := ⟨_, rfl⟩
  have hc1 : c1 < 4294967296 := ec1 ▸ (Nat.mod_lt _ (by decide))
  refine wp_seq (rg_c FF3 MM3 [(2, t_ (.int .u32 (c1 : Nat)))] 12 [] [] (⟨(vI ec1), fun _ _ FF4 MM4 => then_n ?_⟩))
  obtain ⟨b1, eb1⟩ : ∃ z, rN 4096 1048576 (b ^^^ c1) = z := ⟨_, rfl⟩
  have hb1 : b1 < 4294967296 := eb1 ▸ rN_lt 4096 1048576 _ (xor_lt hb hc1)
  refine wp_seq (rg_c FF4 MM4 [(3, t_ (.int .u32 (b1 : Nat)))] 12 [] [] (⟨hb, hc1, (by rw [← eb1]; exact (callP_of en_crotl (crotl_any (b ^^^ c1) 12 4096 1048576 (xor_lt hb hc1) (by decide) (by decide) rfl rfl) _)), fun _ _ FF5 MM5 => then_n ?_⟩))
  obtain ⟨a2, ea2⟩ : ∃ z, (a1 + b1) % 4294967296 = z := ⟨_, rfl⟩
  have ha2 : a2 < 4294967296 := ea2 ▸ (Nat.mod_lt _ (by decide))
  refine wp_seq (rg_c FF5 MM5 [(2, t_ (.int .u32 (a2 : Nat)))] 12 [] [] (⟨(vI ea2), fun _ _ FF6 MM6 => then_n ?_⟩))
  obtain ⟨d2, ed2⟩ : ∃ z, rN 256 16777216 (d1 ^^^ a2) = z := ⟨_, rfl⟩
  have hd2 : d2 < 4294967296 := ed2 ▸ rN_lt 256 16777216 _ (xor_lt hd1 ha2)
  refine wp_seq (rg_c FF6 MM6 [(3, t_ (.int .u32 (d2 : Nat)))] 12 [] [] (⟨hd1, ha2, (by rw [← ed2]; exact (callP_of en_crotl (crotl_any (d1 ^^^ a2) 8 256 16777216 (xor_lt hd1 ha2) (by decide) (by decide) rfl rfl) _)), fun _ _ FF7 MM7 => then_n ?_⟩))
  obtain ⟨c2, ec2⟩ : ∃ z, (c1 + d2) % 4294967296 = z := ⟨_, rfl⟩
  have hc2 : c2 < 4294967296 := ec2 ▸ (Nat.mod_lt _ (by decide))
  refine wp_seq (rg_c FF7 MM7 [(2, t_ (.int .u32 (c2 : Nat)))] 12 [] [] (⟨(vI ec2), fun _ _ FF8 MM8 => then_n ?_⟩))
  obtain ⟨b2, eb2⟩ : ∃ z, rN 128 33554432 (b1 ^^^ c2) = z := ⟨_, rfl⟩
  have hb2 : b2 < 4294967296 := eb2 ▸ rN_lt 128 33554432 _ (xor_lt hb1 hc2)
  refine wp_seq (rg_c FF8 MM8 [(3, t_ (.int .u32 (b2 : Nat)))] 12 [] [] (⟨hb1, hc2, (by rw [← eb2]; exact (callP_of en_crotl (crotl_any (b1 ^^^ c2) 7 128 33554432 (xor_lt hb1 hc2) (by decide) (by decide) rfl rfl) _)), fun _ _ FF9 MM9 => then_n ?_⟩))
  refine wp_seq (rg_c FF9 MM9 [] 12 [] [] (fun _ _ FF10 MM10 => then_n ?_))
  refine wp_ret ?_
  repeat first | refine then_ret ?_ | refine inb_ret ?_
  exact (ret_tup4 FF10 3 2 1 0 Tryz.results109 rfl rfl rfl rfl ⟨by subst ea1 ed1 ec1 eb1 ea2 ed2 ec2 eb2; rfl, MM10.below⟩)
set_option maxRecDepth 100000 in
theorem cword_any (X : List Nat) (hl : X.length = 4) (hX : ∀ i, X.getD i 0 < 256) (w0 : World) :
    Calls Tryz.prog 91 #[.agg (cn .u8 X)] w0 fun e w' => e = .returned (.int .u32 (cwdL X : Nat)) ∧ Below w0.heap.size w0 w' := by
  refine enter_fr Tryz.func91 rfl Tryz.ntmps91 (by simp) fun ac (FF : Fr 21 ac [(0, .agg (cn .u8 X))]) => ?_
  have MM := MemS.start w0
  have h0 := hX 0
  have h1 := hX 1
  have h2 := hX 2
  have h3 := hX 3
  refine wp_seq (rg_c FF MM [(0, s_ 0 (.cells (cn .u8 X) 163))] 3 [] [0] (⟨(by kernel_rfl), fun b1 => fun _ _ FF1 MM1 => then_n ?_⟩))
  refine wp_seq (rg_c FF1 MM1 [(0, w_ 1), (0, l_ 0 (iB (X.getD 0 0))), (0, w_ 1), (0, w_ 1), (0, l_ 0 (iB (X.getD 1 0))), (0, w_ 1), (0, t_ (.int .u32 (X.getD 1 0 * 256 : Nat))), (0, t_ (.int .u32 (X.getD 0 0 + X.getD 1 0 * 256 : Nat))), (0, w_ 1), (0, l_ 0 (iB (X.getD 2 0))), (0, w_ 1), (0, t_ (.int .u32 (X.getD 2 0 * 65536 : Nat))), (0, t_ (.int .u32 (X.getD 0 0 + X.getD 1 0 * 256 + X.getD 2 0 * 65536 : Nat))), (0, w_ 1), (0, l_ 0 (iB (X.getD 3 0))), (0, w_ 1), (0, t_ (.int .u32 (X.getD 3 0 * 16777216 : Nat))), (0, t_ (.int .u32 (cwdL X : Nat)))] 0 [2] [] (⟨by decide, rfl, (cn_get _ _ _ (by rw [hl]; decide)), (by have := hX 0; omega), by decide, rfl, (cn_get _ _ _ (by rw [hl]; decide)), (by have := hX 1; omega), (vI (Nat.mod_eq_of_lt (by omega))), by omega, by omega, (vI (or_shl 8 h0)), by decide, rfl, (cn_get _ _ _ (by rw [hl]; decide)), (by have := hX 2; omega), (vI (Nat.mod_eq_of_lt (by omega))), by omega, by omega, (vI (or_shl 16 (by omega))), by decide, rfl, (cn_get _ _ _ (by rw [hl]; decide)), (by have := hX 3; omega), (vI (Nat.mod_eq_of_lt (by omega))), by omega, by omega, (vI (cwdL_or hX)), fun _ _ FF2 MM2 => then_n ?_⟩))
  refine wp_ret ?_
  repeat first | refine then_ret ?_ | refine inb_ret ?_
  exact (ret_fr FF2 0 Tryz.results91 rfl ⟨rfl, MM2.below⟩)
set_option maxRecDepth 100000 in
theorem laid_any (ks ns : List Nat) (c : Nat) (hks : Bytes 32 ks) (hns : Bytes 12 ns) (w0 : World) :
    Calls Tryz.prog 67 #[.agg (cn .u8 ks), .int .u32 (c : Nat), .agg (cn .u8 ns)] w0 fun e w' => e = .returned (.agg (cn .u32 (laid ks c ns))) ∧ Below w0.heap.size w0 w' := by
  refine enter_fr Tryz.func67 rfl Tryz.ntmps67 (by simp) fun ac (FF : Fr 39 ac [(0, .agg (cn .u8 ks)), (1, .int .u32 (c : Nat)), (2, .agg (cn .u8 ns))]) => ?_
  have MM := MemS.start w0
  refine wp_seq (rg_c FF MM [(0, s_ 0 (.cells (cn .u8 ks) 23)), (0, s_ 0 (.cells (cn .u8 ns) 56)), (0, s_ 0 (.cells (cn .u32 (List.replicate 16 0)) 128))] 7 [] [0, 2] (⟨(by kernel_rfl), fun bk => ⟨(by kernel_rfl), fun bn => ⟨(by kernel_rfl), fun br => fun _ _ FF1 MM1 => then_n ?_⟩⟩⟩))
  refine wp_seq (rg_c FF1 MM1 [(1, t_ (.agg (cn .u32 ([1634760805, 857760878, 2036477234, 1797285236, 0, 0, 0, 0, 0, 0, 0, 0, c, 0, 0, 0])))), (0, s_ 0 (.cells (cn .u32 (List.replicate 16 0)) 128)), (0, b_ 0)] 8 [] [1] (⟨(by kernel_rfl), (by kernel_rfl), fun bw => ⟨rfl, ((cn_size _ _).trans (List.length_replicate ..)), ((cn_size _ _).trans rfl), (cn_one _ _), rfl, fun _ _ FF2 MM2 => then_n ?_⟩⟩))
  have MMr4 : MemS _ _ _ [(bw, .cells (cn .u32 (setTo 4 ks (lay0 c) 0)) 128), _, _, _] _ := MM2
  refine wp_seq ?_
  refine wp_seq (rg_c FF2 MMr4 [] 13 [] [] (fun _ _ FF3 MM3 => then_n ?_))
  refine wp_for (fun a' w' => ∃ i : Nat, i ≤ 8 ∧ Fr 39 a' [(12, iN i), (7, pT bw), (6, pT br), (5, pT bn), (3, pT bk)] ∧ MemS (fun k => k < w0.heap.size) w0 w' [(bw, .cells (cn .u32 (setTo 4 ks (lay0 c) i)) 128), (br, .cells (cn .u32 (List.replicate 16 0)) 128), (bn, .cells (cn .u8 ns) 56), (bk, .cells (cn .u8 ks) 23)] []) (fun a' _ => (8 - cnt 12 a').toNat) ⟨0, Nat.zero_le _, FF3.pick [0, 1, 2, 3, 4], MM3⟩ ?_
  rintro ac4 wd4 ⟨i, hi, FF4, MM4⟩
  have hc := cnt_of (FF4.get 0 rfl)
  refine rg_c FF4 MM4 [] 14 [] [] (fun _ _ FF5 MM5 => ?_)
  by_cases hlt : i < 8
  · skip
    refine then_n (.inl ⟨(FF5.ev 0 rfl).trans (dec_t hlt), ?_⟩)
    refine wp_seq (rg_c FF5 MM5 [] 13 [] [] (fun _ _ FF6 MM6 => then_n ?_))
    refine rg_c FF6 MM6 [(4, w_ 2), (1, l_ 3 (.agg (cn .u8 (quad ks i)))), (0, t_ (.int .u32 (cwdAt ks i : Nat))), (0, w_ 1), (0, s_ 0 (.cells (cn .u32 ((setTo 4 ks (lay0 c) i).set (4 + i) (cwdAt ks i))) 128))] 13 [] [] (⟨by omega, by omega, by omega, by decide, by omega, by omega, rfl, (quad_part (by rw [hks.len]; omega)), ((cn_size _ _).trans rfl), (callP_of en_cword (cword_any (quad ks i) rfl (quad_lt hks.lt i)) _), by omega, rfl, (by rw [cn_size, (setTo_len16 _ _ _ _)]; omega), (.inl rfl), (cn_set _ _ _ _), fun _ _ FF7 MM7 => ?_⟩)
    have MMr16 : MemS _ _ _ [(bw, .cells (cn .u32 (setTo 4 ks (lay0 c) (i + 1))) 128), _, _, _] _ := MM7
    refine inb_n (then_n ?_)
    refine rg_c FF7 MMr16 [] 13 [] [] (⟨by omega, fun _ _ FF8 MM8 => ?_⟩)
    have hd := cnt_of (FF8.get 0 rfl)
    refine then_n ⟨⟨i + 1, by omega, FF8.pick [0, 2, 3, 4, 5], MM8⟩, ?_⟩
    rw [hc, hd]; omega
  · skip
    refine then_n (.inr ⟨(FF5.ev 0 rfl).trans (dec_f hlt), ?_⟩)
    obtain rfl : i = 8 := by omega
    refine then_n ?_
    refine wp_seq ?_
    refine wp_seq (rg_c FF5 MM5 [] 13 [25] [] (fun _ _ FF9 MM9 => then_n ?_))
    have MMr28 : MemS _ _ _ [(bw, .cells (cn .u32 (setTo 13 ns (setTo 4 ks (lay0 c) 8) 0)) 128), _, _, _] _ := MM9
    refine wp_for (fun a' w' => ∃ i : Nat, i ≤ 3 ∧ Fr 39 a' [(25, iN i), (12, iN 8), (7, pT bw), (6, pT br), (5, pT bn), (3, pT bk)] ∧ MemS (fun k => k < w0.heap.size) w0 w' [(bw, .cells (cn .u32 (setTo 13 ns (setTo 4 ks (lay0 c) 8) i)) 128), (br, .cells (cn .u32 (List.replicate 16 0)) 128), (bn, .cells (cn .u8 ns) 56), (bk, .cells (cn .u8 ks) 23)] []) (fun a' _ => (3 - cnt 25 a').toNat) ⟨0, Nat.zero_le _, FF9.pick [0, 1, 2, 3, 4, 5], MMr28⟩ ?_
    rintro ac10 wd10 ⟨i, hi, FF10, MM10⟩
    have hc := cnt_of (FF10.get 0 rfl)
    refine rg_c FF10 MM10 [] 27 [] [] (fun _ _ FF11 MM11 => ?_)
    by_cases hlt : i < 3
    · skip
      refine then_n (.inl ⟨(FF11.ev 0 rfl).trans (dec_t hlt), ?_⟩)
      refine wp_seq (rg_c FF11 MM11 [] 26 [] [] (fun _ _ FF12 MM12 => then_n ?_))
      refine rg_c FF12 MM12 [(4, w_ 2), (1, l_ 2 (.agg (cn .u8 (quad ns i)))), (0, t_ (.int .u32 (cwdAt ns i : Nat))), (0, w_ 1), (0, s_ 0 (.cells (cn .u32 ((setTo 13 ns (setTo 4 ks (lay0 c) 8) i).set (13 + i) (cwdAt ns i))) 128))] 26 [] [] (⟨by omega, by omega, by omega, by decide, by omega, by omega, rfl, (quad_part (by rw [hns.len]; omega)), ((cn_size _ _).trans rfl), (callP_of en_cword (cword_any (quad ns i) rfl (quad_lt hns.lt i)) _), by omega, rfl, (by rw [cn_size, ((setTo_len _ _ _ _).trans (setTo_len16 _ _ _ _))]; omega), (.inl rfl), (cn_set _ _ _ _), fun _ _ FF13 MM13 => ?_⟩)
      have MMr38 : MemS _ _ _ [(bw, .cells (cn .u32 (setTo 13 ns (setTo 4 ks (lay0 c) 8) (i + 1))) 128), _, _, _] _ := MM13
      refine inb_n (then_n ?_)
      refine rg_c FF13 MMr38 [] 26 [] [] (⟨by omega, fun _ _ FF14 MM14 => ?_⟩)
      have hd := cnt_of (FF14.get 0 rfl)
      refine then_n ⟨⟨i + 1, by omega, FF14.pick [0, 2, 3, 4, 5, 6], MM14⟩, ?_⟩
      rw [hc, hd]; omega
    · skip
      refine then_n (.inr ⟨(FF11.ev 0 rfl).trans (dec_f hlt), ?_⟩)
      obtain rfl : i = 3 := by omega
      have MMr47 : MemS _ _ _ [(bw, .cells (cn .u32 (laid ks c ns)) 128), _, _, _] _ := MM11
      refine then_n ?_
      refine wp_seq (rg_c FF11 MMr47 [(0, b_ 0), (0, b_ 1)] 26 [] [] (⟨rfl, ((cn_size _ _).trans rfl), rfl, ((cn_size _ _).trans (List.length_replicate ..)), ((cn_size _ _).trans rfl), (cn_one _ _), rfl, fun _ _ FF15 MM15 => then_n ?_⟩))
      refine wp_ret ?_
      repeat first | refine then_ret ?_ | refine inb_ret ?_
      exact (retc FF15 MM15 (k := 16) (i := 1) (j := 3) Tryz.results67 rfl rfl Tryz.underlying128 rfl (by kernel_rfl) ((cn_size _ _).trans rfl) ⟨rfl, MM15.below⟩)
end Go.Proofs.YtdjpacgjhcidpabGreatDoor
namespace Go.Proofs.YtdjpacgjhcidpabGreatDoor
open Go.RowKit
set_option maxHeartbeats 1000000 in
set_option maxRecDepth 100000 in
theorem stirred_any (l : List Nat) (H : Words l) (w0 : World) :
    Calls Tryz.prog 92 #[.agg (cn .u32 l)] w0 fun e w' => e = .returned (.agg (cn .u32 (dblN l 10))) ∧ Below w0.heap.size w0 w' := by
  refine enter_fr Tryz.func92 rfl Tryz.ntmps92 (by simp) fun ac (FF : Fr 151 ac [(0, .agg (cn .u32 l))]) => ?_
  have MM := MemS.start w0
  refine wp_seq (rg_c FF MM [(0, s_ 0 (.cells (cn .u32 l) 128)), (0, s_ 0 (.cells (cn .u32 (List.replicate 16 0)) 128))] 3 [] [0] (⟨(by kernel_rfl), fun bw => ⟨(by kernel_rfl), fun br => fun _ _ FF1 MM1 => then_n ?_⟩⟩))
  refine wp_seq ?_
  refine wp_seq (rg_c FF1 MM1 [] 4 [] [] (fun _ _ FF2 MM2 => then_n ?_))
  have MMr5 : MemS _ _ _ [_, (bw, .cells (cn .u32 (dblN l 0)) 128)] _ := MM2
  refine wp_for (fun a' w' => ∃ i : Nat, i ≤ 10 ∧ Fr 151 a' [(3, iN i), (2, pT br), (1, pT bw)] ∧ MemS (fun k => k < w0.heap.size) w0 w' [(br, .cells (cn .u32 (List.replicate 16 0)) 128), (bw, .cells (cn .u32 (dblN l i)) 128)] []) (fun a' _ => (10 - cnt 3 a').toNat) ⟨0, Nat.zero_le _, FF2.pick [0, 1, 2], MMr5⟩ ?_
  rintro ac3 wd3 ⟨i, hi, FF3, MM3⟩
  have hc := cnt_of (FF3.get 0 rfl)
  refine rg_c FF3 MM3 [] 5 [] [] (fun _ _ FF4 MM4 => ?_)
  by_cases hlt : i < 10
  · skip
    refine then_n (.inl ⟨(FF4.ev 0 rfl).trans (dec_t hlt), ?_⟩)
    obtain ⟨l0, e0⟩ : ∃ z, dblN l i = z := ⟨_, rfl⟩
    have H0 : Words l0 := e0 ▸ H.dblN i
    have MMr15 : MemS _ _ _ [_, (bw, .cells (cn .u32 l0) 128)] _ := MM4.eqA 1 rfl (by rw [← e0] <;> rfl)
    refine wp_seq (rg_c FF4 MMr15 [(0, w_ 1), (0, l_ 1 (.int .u32 (l0.getD 0 0 : Nat))), (0, w_ 1), (0, l_ 1 (.int .u32 (l0.getD 4 0 : Nat))), (0, w_ 1), (0, l_ 1 (.int .u32 (l0.getD 8 0 : Nat))), (0, w_ 1), (0, l_ 1 (.int .u32 (l0.getD 12 0 : Nat))), (0, t_ (.tuple #[.int .u32 ((q4 (l0.getD 0 0) (l0.getD 4 0) (l0.getD 8 0) (l0.getD 12 0)).a : Nat), .int .u32 ((q4 (l0.getD 0 0) (l0.getD 4 0) (l0.getD 8 0) (l0.getD 12 0)).b : Nat), .int .u32 ((q4 (l0.getD 0 0) (l0.getD 4 0) (l0.getD 8 0) (l0.getD 12 0)).c : Nat), .int .u32 ((q4 (l0.getD 0 0) (l0.getD 4 0) (l0.getD 8 0) (l0.getD 12 0)).d : Nat)])), (5, w_ 1), (0, s_ 1 (.cells (cn .u32 (l0.set 0 ((q4 (l0.getD 0 0) (l0.getD 4 0) (l0.getD 8 0) (l0.getD 12 0)).a))) 128)), (0, w_ 1), (0, s_ 1 (.cells (cn .u32 ((l0.set 0 ((q4 (l0.getD 0 0) (l0.getD 4 0) (l0.getD 8 0) (l0.getD 12 0)).a)).set 4 ((q4 (l0.getD 0 0) (l0.getD 4 0) (l0.getD 8 0) (l0.getD 12 0)).b))) 128)), (0, w_ 1), (0, s_ 1 (.cells (cn .u32 (((l0.set 0 ((q4 (l0.getD 0 0) (l0.getD 4 0) (l0.getD 8 0) (l0.getD 12 0)).a)).set 4 ((q4 (l0.getD 0 0) (l0.getD 4 0) (l0.getD 8 0) (l0.getD 12 0)).b)).set 8 ((q4 (l0.getD 0 0) (l0.getD 4 0) (l0.getD 8 0) (l0.getD 12 0)).c))) 128)), (0, w_ 1), (0, s_ 1 (.cells (cn .u32 ((((l0.set 0 ((q4 (l0.getD 0 0) (l0.getD 4 0) (l0.getD 8 0) (l0.getD 12 0)).a)).set 4 ((q4 (l0.getD 0 0) (l0.getD 4 0) (l0.getD 8 0) (l0.getD 12 0)).b)).set 8 ((q4 (l0.getD 0 0) (l0.getD 4 0) (l0.getD 8 0) (l0.getD 12 0)).c)).set 12 ((q4 (l0.getD 0 0) (l0.getD 4 0) (l0.getD 8 0) (l0.getD 12 0)).d))) 128))] 4 [] [] (⟨by decide, rfl, (cn_get _ _ _ (by rw [H0.len]; decide)), by decide, rfl, (cn_get _ _ _ (by rw [H0.len]; decide)), by decide, rfl, (cn_get _ _ _ (by rw [H0.len]; decide)), by decide, rfl, (cn_get _ _ _ (by rw [H0.len]; decide)), (callP_of en_quarter (quarter_any (l0.getD 0 0) (l0.getD 4 0) (l0.getD 8 0) (l0.getD 12 0) (H0.lt 4) (H0.lt 12)) _), by decide, rfl, (by rw [cn_size, H0.len]; decide), (.inl rfl), (cn_set _ _ _ _), by decide, rfl, (by rw [cn_size, (len_set H0.len)]; decide), (.inl rfl), (cn_set _ _ _ _), by decide, rfl, (by rw [cn_size, (len_set (len_set H0.len))]; decide), (.inl rfl), (cn_set _ _ _ _), by decide, rfl, (by rw [cn_size, (len_set (len_set (len_set H0.len)))]; decide), (.inl rfl), (cn_set _ _ _ _), fun _ _ FF5 MM5 => then_n ?_⟩))
    obtain ⟨l1, e1⟩ : ∃ z, qAt l0 0 4 8 12 = z := ⟨_, rfl⟩
    have H1 : Words l1 := e1 ▸ H0.qAt 0 4 8 12
    have MMr19 : MemS _ _ _ [_, (bw, .cells (cn .u32 l1) 128)] _ := MM5.eqA 1 rfl (by rw [← e1] <;> rfl)
    refine wp_seq (rg_c FF5 MMr19 [(0, w_ 1), (0, l_ 1 (.int .u32 (l1.getD 1 0 : Nat))), (0, w_ 1), (0, l_ 1 (.int .u32 (l1.getD 5 0 : Nat))), (0, w_ 1), (0, l_ 1 (.int .u32 (l1.getD 9 0 : Nat))), (0, w_ 1), (0, l_ 1 (.int .u32 (l1.getD 13 0 : Nat))), (0, t_ (.tuple #[.int .u32 ((q4 (l1.getD 1 0) (l1.getD 5 0) (l1.getD 9 0) (l1.getD 13 0)).a : Nat), .int .u32 ((q4 (l1.getD 1 0) (l1.getD 5 0) (l1.getD 9 0) (l1.getD 13 0)).b : Nat), .int .u32 ((q4 (l1.getD 1 0) (l1.getD 5 0) (l1.getD 9 0) (l1.getD 13 0)).c : Nat), .int .u32 ((q4 (l1.getD 1 0) (l1.getD 5 0) (l1.getD 9 0) (l1.getD 13 0)).d : Nat)])), (5, w_ 1), (0, s_ 1 (.cells (cn .u32 (l1.set 1 ((q4 (l1.getD 1 0) (l1.getD 5 0) (l1.getD 9 0) (l1.getD 13 0)).a))) 128)), (0, w_ 1), (0, s_ 1 (.cells (cn .u32 ((l1.set 1 ((q4 (l1.getD 1 0) (l1.getD 5 0) (l1.getD 9 0) (l1.getD 13 0)).a)).set 5 ((q4 (l1.getD 1 0) (l1.getD 5 0) (l1.getD 9 0) (l1.getD 13 0)).b))) 128)), (0, w_ 1), (0, s_ 1 (.cells (cn .u32 (((l1.set 1 ((q4 (l1.getD 1 0) (l1.getD 5 0) (l1.getD 9 0) (l1.getD 13 0)).a)).set 5 ((q4 (l1.getD 1 0) (l1.getD 5 0) (l1.getD 9 0) (l1.getD 13 0)).b)).set 9 ((q4 (l1.getD 1 0) (l1.getD 5 0) (l1.getD 9 0) (l1.getD 13 0)).c))) 128)), (0, w_ 1), (0, s_ 1 (.cells (cn .u32 ((((l1.set 1 ((q4 (l1.getD 1 0) (l1.getD 5 0) (l1.getD 9 0) (l1.getD 13 0)).a)).set 5 ((q4 (l1.getD 1 0) (l1.getD 5 0) (l1.getD 9 0) (l1.getD 13 0)).b)).set 9 ((q4 (l1.getD 1 0) (l1.getD 5 0) (l1.getD 9 0) (l1.getD 13 0)).c)).set 13 ((q4 (l1.getD 1 0) (l1.getD 5 0) (l1.getD 9 0) (l1.getD 13 0)).d))) 128))] 4 [] [] (⟨by decide, rfl, (cn_get _ _ _ (by rw [H1.len]; decide)), by decide, rfl, (cn_get _ _ _ (by rw [H1.len]; decide)), by decide, rfl, (cn_get _ _ _ (by rw [H1.len]; decide)), by decide, rfl, (cn_get _ _ _ (by rw [H1.len]; decide)), (callP_of en_quarter (quarter_any (l1.getD 1 0) (l1.getD 5 0) (l1.getD 9 0) (l1.getD 13 0) (H1.lt 5) (H1.lt 13)) _), by decide, rfl, (by rw [cn_size, H1.len]; decide), (.inl rfl), (cn_set _ _ _ _), by decide, rfl, (by rw [cn_size, (len_set H1.len)]; decide), (.inl rfl), (cn_set _ _ _ _), by decide, rfl, (by rw [cn_size, (len_set (len_set H1.len))]; decide), (.inl rfl), (cn_set _ _ _ _), by decide, rfl, (by rw [cn_size, (len_set (len_set (len_set H1.len)))]; decide), (.inl rfl), (cn_set _ _ _ _), fun _ _ FF6 MM6 => then_n ?_⟩))
    obtain ⟨l2, e2⟩ : ∃ z, qAt l1 1 5 9 13 = z := ⟨_, rfl⟩
    have H2 : Words l2 := e2 ▸ H1.qAt 1 5 9 13
    have MMr23 : MemS _ _ _ [_, (bw, .cells (cn .u32 l2) 128)] _ := MM6.eqA 1 rfl (by rw [← e2] <;> rfl)
    refine wp_seq (rg_c FF6 MMr23 [(0, w_ 1), (0, l_ 1 (.int .u32 (l2.getD 2 0 : Nat))), (0, w_ 1), (0, l_ 1 (.int .u32 (l2.getD 6 0 : Nat))), (0, w_ 1), (0, l_ 1 (.int .u32 (l2.getD 10 0 : Nat))), (0, w_ 1), (0, l_ 1 (.int .u32 (l2.getD 14 0 : Nat))), (0, t_ (.tuple #[.int .u32 ((q4 (l2.getD 2 0) (l2.getD 6 0) (l2.getD 10 0) (l2.getD 14 0)).a : Nat), .int .u32 ((q4 (l2.getD 2 0) (l2.getD 6 0) (l2.getD 10 0) (l2.getD 14 0)).b : Nat), .int .u32 ((q4 (l2.getD 2 0) (l2.getD 6 0) (l2.getD 10 0) (l2.getD 14 0)).c : Nat), .int .u32 ((q4 (l2.getD 2 0) (l2.getD 6 0) (l2.getD 10 0) (l2.getD 14 0)).d : Nat)])), (5, w_ 1), (0, s_ 1 (.cells (cn .u32 (l2.set 2 ((q4 (l2.getD 2 0) (l2.getD 6 0) (l2.getD 10 0) (l2.getD 14 0)).a))) 128)), (0, w_ 1), (0, s_ 1 (.cells (cn .u32 ((l2.set 2 ((q4 (l2.getD 2 0) (l2.getD 6 0) (l2.getD 10 0) (l2.getD 14 0)).a)).set 6 ((q4 (l2.getD 2 0) (l2.getD 6 0) (l2.getD 10 0) (l2.getD 14 0)).b))) 128)), (0, w_ 1), (0, s_ 1 (.cells (cn .u32 (((l2.set 2 ((q4 (l2.getD 2 0) (l2.getD 6 0) (l2.getD 10 0) (l2.getD 14 0)).a)).set 6 ((q4 (l2.getD 2 0) (l2.getD 6 0) (l2.getD 10 0) (l2.getD 14 0)).b)).set 10 ((q4 (l2.getD 2 0) (l2.getD 6 0) (l2.getD 10 0) (l2.getD 14 0)).c))) 128)), (0, w_ 1), (0, s_ 1 (.cells (cn .u32 ((((l2.set 2 ((q4 (l2.getD 2 0) (l2.getD 6 0) (l2.getD 10 0) (l2.getD 14 0)).a)).set 6 ((q4 (l2.getD 2 0) (l2.getD 6 0) (l2.getD 10 0) (l2.getD 14 0)).b)).set 10 ((q4 (l2.getD 2 0) (l2.getD 6 0) (l2.getD 10 0) (l2.getD 14 0)).c)).set 14 ((q4 (l2.getD 2 0) (l2.getD 6 0) (l2.getD 10 0) (l2.getD 14 0)).d))) 128))] 4 [] [] (⟨by decide, rfl, (cn_get _ _ _ (by rw [H2.len]; decide)), by decide, rfl, (cn_get _ _ _ (by rw [H2.len]; decide)), by decide, rfl, (cn_get _ _ _ (by rw [H2.len]; decide)), by decide, rfl, (cn_get _ _ _ (by rw [H2.len]; decide)), (callP_of en_quarter (quarter_any (l2.getD 2 0) (l2.getD 6 0) (l2.getD 10 0) (l2.getD 14 0) (H2.lt 6) (H2.lt 14)) _), by decide, rfl, (by rw [cn_size, H2.len]; decide), (.inl rfl), (cn_set _ _ _ _), by decide, rfl, (by rw [cn_size, (len_set H2.len)]; decide), (.inl rfl), (cn_set _ _ _ _), by decide, rfl, (by rw [cn_size, (len_set (len_set H2.len))]; decide), (.inl rfl), (cn_set _ _ _ _), by decide, rfl, (by rw [cn_size, (len_set (len_set (len_set H2.len)))]; decide), (.inl rfl), (cn_set _ _ _ _), fun _ _ FF7 MM7 => then_n ?_⟩))
    obtain ⟨l3, e3⟩ : ∃ z, qAt l2 2 6 10 14 = z := ⟨_, rfl⟩
    have H3 : Words l3 := e3 ▸ H2.qAt 2 6 10 14
    have MMr27 : MemS _ _ _ [_, (bw, .cells (cn .u32 l3) 128)] _ := MM7.eqA 1 rfl (by rw [← e3] <;> rfl)
    refine wp_seq (rg_c FF7 MMr27 [(0, w_ 1), (0, l_ 1 (.int .u32 (l3.getD 3 0 : Nat))), (0, w_ 1), (0, l_ 1 (.int .u32 (l3.getD 7 0 : Nat))), (0, w_ 1), (0, l_ 1 (.int .u32 (l3.getD 11 0 : Nat))), (0, w_ 1), (0, l_ 1 (.int .u32 (l3.getD 15 0 : Nat))), (0, t_ (.tuple #[.int .u32 ((q4 (l3.getD 3 0) (l3.getD 7 0) (l3.getD 11 0) (l3.getD 15 0)).a : Nat), .int .u32 ((q4 (l3.getD 3 0) (l3.getD 7 0) (l3.getD 11 0) (l3.getD 15 0)).b : Nat), .int .u32 ((q4 (l3.getD 3 0) (l3.getD 7 0) (l3.getD 11 0) (l3.getD 15 0)).c : Nat), .int .u32 ((q4 (l3.getD 3 0) (l3.getD 7 0) (l3.getD 11 0) (l3.getD 15 0)).d : Nat)])), (5, w_ 1), (0, s_ 1 (.cells (cn .u32 (l3.set 3 ((q4 (l3.getD 3 0) (l3.getD 7 0) (l3.getD 11 0) (l3.getD 15 0)).a))) 128)), (0, w_ 1), (0, s_ 1 (.cells (cn .u32 ((l3.set 3 ((q4 (l3.getD 3 0) (l3.getD 7 0) (l3.getD 11 0) (l3.getD 15 0)).a)).set 7 ((q4 (l3.getD 3 0) (l3.getD 7 0) (l3.getD 11 0) (l3.getD 15 0)).b))) 128)), (0, w_ 1), (0, s_ 1 (.cells (cn .u32 (((l3.set 3 ((q4 (l3.getD 3 0) (l3.getD 7 0) (l3.getD 11 0) (l3.getD 15 0)).a)).set 7 ((q4 (l3.getD 3 0) (l3.getD 7 0) (l3.getD 11 0) (l3.getD 15 0)).b)).set 11 ((q4 (l3.getD 3 0) (l3.getD 7 0) (l3.getD 11 0) (l3.getD 15 0)).c))) 128)), (0, w_ 1), (0, s_ 1 (.cells (cn .u32 ((((l3.set 3 ((q4 (l3.getD 3 0) (l3.getD 7 0) (l3.getD 11 0) (l3.getD 15 0)).a)).set 7 ((q4 (l3.getD 3 0) (l3.getD 7 0) (l3.getD 11 0) (l3.getD 15 0)).b)).set 11 ((q4 (l3.getD 3 0) (l3.getD 7 0) (l3.getD 11 0) (l3.getD 15 0)).c)).set 15 ((q4 (l3.getD 3 0) (l3.getD 7 0) (l3.getD 11 0) (l3.getD 15 0)).d))) 128))] 4 [] [] (⟨by decide, rfl, (cn_get _ _ _ (by rw [H3.len]; decide)), by decide, rfl, (cn_get _ _ _ (by rw [H3.len]; decide)), by decide, rfl, (cn_get _ _ _ (by rw [H3.len]; decide)), by decide, rfl, (cn_get _ _ _ (by rw [H3.len]; decide)), (callP_of en_quarter (quarter_any (l3.getD 3 0) (l3.getD 7 0) (l3.getD 11 0) (l3.getD 15 0) (H3.lt 7) (H3.lt 15)) _), by decide, rfl, (by rw [cn_size, H3.len]; decide), (.inl rfl), (cn_set _ _ _ _), by decide, rfl, (by rw [cn_size, (len_set H3.len)]; decide), (.inl rfl), (cn_set _ _ _ _), by decide, rfl, (by rw [cn_size, (len_set (len_set H3.len))]; decide), (.inl rfl), (cn_set _ _ _ _), by decide, rfl, (by rw [cn_size, (len_set (len_set (len_set H3.len)))]; decide), (.inl rfl), (cn_set _ _ _ _), fun _ _ FF8 MM8 => then_n ?_⟩))
    obtain ⟨l4, e4⟩ : ∃ z, qAt l3 3 7 11 15 = z := ⟨_, rfl⟩
    have H4 : Words l4 := e4 ▸ H3.qAt 3 7 11 15
    have MMr31 : MemS _ _ _ [_, (bw, .cells (cn .u32 l4) 128)] _ := MM8.eqA 1 rfl (by rw [← e4] <;> rfl)
    refine wp_seq (rg_c FF8 MMr31 [(0, w_ 1), (0, l_ 1 (.int .u32 (l4.getD 0 0 : Nat))), (0, w_ 1), (0, l_ 1 (.int .u32 (l4.getD 5 0 : Nat))), (0, w_ 1), (0, l_ 1 (.int .u32 (l4.getD 10 0 : Nat))), (0, w_ 1), (0, l_ 1 (.int .u32 (l4.getD 15 0 : Nat))), (0, t_ (.tuple #[.int .u32 ((q4 (l4.getD 0 0) (l4.getD 5 0) (l4.getD 10 0) (l4.getD 15 0)).a : Nat), .int .u32 ((q4 (l4.getD 0 0) (l4.getD 5 0) (l4.getD 10 0) (l4.getD 15 0)).b : Nat), .int .u32 ((q4 (l4.getD 0 0) (l4.getD 5 0) (l4.getD 10 0) (l4.getD 15 0)).c : Nat), .int .u32 ((q4 (l4.getD 0 0) (l4.getD 5 0) (l4.getD 10 0) (l4.getD 15 0)).d : Nat)])), (5, w_ 1), (0, s_ 1 (.cells (cn .u32 (l4.set 0 ((q4 (l4.getD 0 0) (l4.getD 5 0) (l4.getD 10 0) (l4.getD 15 0)).a))) 128)), (0, w_ 1), (0, s_ 1 (.cells (cn .u32 ((l4.set 0 ((q4 (l4.getD 0 0) (l4.getD 5 0) (l4.getD 10 0) (l4.getD 15 0)).a)).set 5 ((q4 (l4.getD 0 0) (l4.getD 5 0) (l4.getD 10 0) (l4.getD 15 0)).b))) 128)), (0, w_ 1), (0, s_ 1 (.cells (cn .u32 (((l4.set 0 ((q4 (l4.getD 0 0) (l4.getD 5 0) (l4.getD 10 0) (l4.getD 15 0)).a)).set 5 ((q4 (l4.getD 0 0) (l4.getD 5 0) (l4.getD 10 0) (l4.getD 15 0)).b)).set 10 ((q4 (l4.getD 0 0) (l4.getD 5 0) (l4.getD 10 0) (l4.getD 15 0)).c))) 128)), (0, w_ 1), (0, s_ 1 (.cells (cn .u32 ((((l4.set 0 ((q4 (l4.getD 0 0) (l4.getD 5 0) (l4.getD 10 0) (l4.getD 15 0)).a)).set 5 ((q4 (l4.getD 0 0) (l4.getD 5 0) (l4.getD 10 0) (l4.getD 15 0)).b)).set 10 ((q4 (l4.getD 0 0) (l4.getD 5 0) (l4.getD 10 0) (l4.getD 15 0)).c)).set 15 ((q4 (l4.getD 0 0) (l4.getD 5 0) (l4.getD 10 0) (l4.getD 15 0)).d))) 128))] 4 [] [] (⟨by decide, rfl, (cn_get _ _ _ (by rw [H4.len]; decide)), by decide, rfl, (cn_get _ _ _ (by rw [H4.len]; decide)), by decide, rfl, (cn_get _ _ _ (by rw [H4.len]; decide)), by decide, rfl, (cn_get _ _ _ (by rw [H4.len]; decide)), (callP_of en_quarter (quarter_any (l4.getD 0 0) (l4.getD 5 0) (l4.getD 10 0) (l4.getD 15 0) (H4.lt 5) (H4.lt 15)) _), by decide, rfl, (by rw [cn_size, H4.len]; decide), (.inl rfl), (cn_set _ _ _ _), by decide, rfl, (by rw [cn_size, (len_set H4.len)]; decide), (.inl rfl), (cn_set _ _ _ _), by decide, rfl, (by rw [cn_size, (len_set (len_set H4.len))]; decide), (.inl rfl), (cn_set _ _ _ _), by decide, rfl, (by rw [cn_size, (len_set (len_set (len_set H4.len)))]; decide), (.inl rfl), (cn_set _ _ _ _), fun _ _ FF9 MM9 => then_n ?_⟩))
    obtain ⟨l5, e5⟩ : ∃ z, qAt l4 0 5 10 15 = z := ⟨_, rfl⟩
    have H5 : Words l5 := e5 ▸ H4.qAt 0 5 10 15
    have MMr35 : MemS _ _ _ [_, (bw, .cells (cn .u32 l5) 128)] _ := MM9.eqA 1 rfl (by rw [← e5] <;> rfl)
    refine wp_seq (rg_c FF9 MMr35 [(0, w_ 1), (0, l_ 1 (.int .u32 (l5.getD 1 0 : Nat))), (0, w_ 1), (0, l_ 1 (.int .u32 (l5.getD 6 0 : Nat))), (0, w_ 1), (0, l_ 1 (.int .u32 (l5.getD 11 0 : Nat))), (0, w_ 1), (0, l_ 1 (.int .u32 (l5.getD 12 0 : Nat))), (0, t_ (.tuple #[.int .u32 ((q4 (l5.getD 1 0) (l5.getD 6 0) (l5.getD 11 0) (l5.getD 12 0)).a : Nat), .int .u32 ((q4 (l5.getD 1 0) (l5.getD 6 0) (l5.getD 11 0) (l5.getD 12 0)).b : Nat), .int .u32 ((q4 (l5.getD 1 0) (l5.getD 6 0) (l5.getD 11 0) (l5.getD 12 0)).c : Nat), .int .u32 ((q4 (l5.getD 1 0) (l5.getD 6 0) (l5.getD 11 0) (l5.getD 12 0)).d : Nat)])), (5, w_ 1), (0, s_ 1 (.cells (cn .u32 (l5.set 1 ((q4 (l5.getD 1 0) (l5.getD 6 0) (l5.getD 11 0) (l5.getD 12 0)).a))) 128)), (0, w_ 1), (0, s_ 1 (.cells (cn .u32 ((l5.set 1 ((q4 (l5.getD 1 0) (l5.getD 6 0) (l5.getD 11 0) (l5.getD 12 0)).a)).set 6 ((q4 (l5.getD 1 0) (l5.getD 6 0) (l5.getD 11 0) (l5.getD 12 0)).b))) 128)), (0, w_ 1), (0, s_ 1 (.cells (cn .u32 (((l5.set 1 ((q4 (l5.getD 1 0) (l5.getD 6 0) (l5.getD 11 0) (l5.getD 12 0)).a)).set 6 ((q4 (l5.getD 1 0) (l5.getD 6 0) (l5.getD 11 0) (l5.getD 12 0)).b)).set 11 ((q4 (l5.getD 1 0) (l5.getD 6 0) (l5.getD 11 0) (l5.getD 12 0)).c))) 128)), (0, w_ 1), (0, s_ 1 (.cells (cn .u32 ((((l5.set 1 ((q4 (l5.getD 1 0) (l5.getD 6 0) (l5.getD 11 0) (l5.getD 12 0)).a)).set 6 ((q4 (l5.getD 1 0) (l5.getD 6 0) (l5.getD 11 0) (l5.getD 12 0)).b)).set 11 ((q4 (l5.getD 1 0) (l5.getD 6 0) (l5.getD 11 0) (l5.getD 12 0)).c)).set 12 ((q4 (l5.getD 1 0) (l5.getD 6 0) (l5.getD 11 0) (l5.getD 12 0)).d))) 128))] 4 [] [] (⟨by decide, rfl, (cn_get _ _ _ (by rw [H5.len]; decide)), by decide, rfl, (cn_get _ _ _ (by rw [H5.len]; decide)), by decide, rfl, (cn_get _ _ _ (by rw [H5.len]; decide)), by decide, rfl, (cn_get _ _ _ (by rw [H5.len]; decide)), (callP_of en_quarter (quarter_any (l5.getD 1 0) (l5.getD 6 0) (l5.getD 11 0) (l5.getD 12 0) (H5.lt 6) (H5.lt 12)) _), by decide, rfl, (by rw [cn_size, H5.len]; decide), (.inl rfl), (cn_set _ _ _ _), by decide, rfl, (by rw [cn_size, (len_set H5.len)]; decide), (.inl rfl), (cn_set _ _ _ _), by decide, rfl, (by rw [cn_size, (len_set (len_set H5.len))]; decide), (.inl rfl), (cn_set _ _ _ _), by decide, rfl, (by rw [cn_size, (len_set (len_set (len_set H5.len)))]; decide), (.inl rfl), (cn_set _ _ _ _), fun _ _ FF10 MM10 => then_n ?_⟩))
    obtain ⟨l6, e6⟩ : ∃ z, qAt l5 1 6 11 12 = z := ⟨_, rfl⟩
    have H6 : Words l6 := e6 ▸ H5.qAt 1 6 11 12
    have MMr39 : MemS _ _ _ [_, (bw, .cells (cn .u32 l6) 128)] _ := MM10.eqA 1 rfl (by rw [← e6] <;> rfl)
    refine wp_seq (rg_c FF10 MMr39 [(0, w_ 1), (0, l_ 1 (.int .u32 (l6.getD 2 0 : Nat))), (0, w_ 1), (0, l_ 1 (.int .u32 (l6.getD 7 0 : Nat))), (0, w_ 1), (0, l_ 1 (.int .u32 (l6.getD 8 0 : Nat))), (0, w_ 1), (0, l_ 1 (.int .u32 (l6.getD 13 0 : Nat))), (0, t_ (.tuple #[.int .u32 ((q4 (l6.getD 2 0) (l6.getD 7 0) (l6.getD 8 0) (l6.getD 13 0)).a : Nat), .int .u32 ((q4 (l6.getD 2 0) (l6.getD 7 0) (l6.getD 8 0) (l6.getD 13 0)).b : Nat), .int .u32 ((q4 (l6.getD 2 0) (l6.getD 7 0) (l6.getD 8 0) (l6.getD 13 0)).c : Nat), .int .u32 ((q4 (l6.getD 2 0) (l6.getD 7 0) (l6.getD 8 0) (l6.getD 13 0)).d : Nat)])), (5, w_ 1), (0, s_ 1 (.cells (cn .u32 (l6.set 2 ((q4 (l6.getD 2 0) (l6.getD 7 0) (l6.getD 8 0) (l6.getD 13 0)).a))) 128)), (0, w_ 1), (0, s_ 1 (.cells (cn .u32 ((l6.set 2 ((q4 (l6.getD 2 0) (l6.getD 7 0) (l6.getD 8 0) (l6.getD 13 0)).a)).set 7 ((q4 (l6.getD 2 0) (l6.getD 7 0) (l6.getD 8 0) (l6.getD 13 0)).b))) 128)), (0, w_ 1), (0, s_ 1 (.cells (cn .u32 (((l6.set 2 ((q4 (l6.getD 2 0) (l6.getD 7 0) (l6.getD 8 0) (l6.getD 13 0)).a)).set 7 ((q4 (l6.getD 2 0) (l6.getD 7 0) (l6.getD 8 0) (l6.getD 13 0)).b)).set 8 ((q4 (l6.getD 2 0) (l6.getD 7 0) (l6.getD 8 0) (l6.getD 13 0)).c))) 128)), (0, w_ 1), (0, s_ 1 (.cells (cn .u32 ((((l6.set 2 ((q4 (l6.getD 2 0) (l6.getD 7 0) (l6.getD 8 0) (l6.getD 13 0)).a)).set 7 ((q4 (l6.getD 2 0) (l6.getD 7 0) (l6.getD 8 0) (l6.getD 13 0)).b)).set 8 ((q4 (l6.getD 2 0) (l6.getD 7 0) (l6.getD 8 0) (l6.getD 13 0)).c)).set 13 ((q4 (l6.getD 2 0) (l6.getD 7 0) (l6.getD 8 0) (l6.getD 13 0)).d))) 128))] 4 [] [] (⟨by decide, rfl, (cn_get _ _ _ (by rw [H6.len]; decide)), by decide, rfl, (cn_get _ _ _ (by rw [H6.len]; decide)), by decide, rfl, (cn_get _ _ _ (by rw [H6.len]; decide)), by decide, rfl, (cn_get _ _ _ (by rw [H6.len]; decide)), (callP_of en_quarter (quarter_any (l6.getD 2 0) (l6.getD 7 0) (l6.getD 8 0) (l6.getD 13 0) (H6.lt 7) (H6.lt 13)) _), by decide, rfl, (by rw [cn_size, H6.len]; decide), (.inl rfl), (cn_set _ _ _ _), by decide, rfl, (by rw [cn_size, (len_set H6.len)]; decide), (.inl rfl), (cn_set _ _ _ _), by decide, rfl, (by rw [cn_size, (len_set (len_set H6.len))]; decide), (.inl rfl), (cn_set _ _ _ _), by decide, rfl, (by rw [cn_size, (len_set (len_set (len_set H6.len)))]; decide), (.inl rfl), (cn_set _ _ _ _), fun _ _ FF11 MM11 => then_n ?_⟩))
    obtain ⟨l7, e7⟩ : ∃ z, qAt l6 2 7 8 13 = z := ⟨_, rfl⟩
    have H7 : Words l7 := e7 ▸ H6.qAt 2 7 8 13
    have MMr43 : MemS _ _ _ [_, (bw, .cells (cn .u32 l7) 128)] _ := MM11.eqA 1 rfl (by rw [← e7] <;> rfl)
    refine rg_c FF11 MMr43 [(0, w_ 1), (0, l_ 1 (.int .u32 (l7.getD 3 0 : Nat))), (0, w_ 1), (0, l_ 1 (.int .u32 (l7.getD 4 0 : Nat))), (0, w_ 1), (0, l_ 1 (.int .u32 (l7.getD 9 0 : Nat))), (0, w_ 1), (0, l_ 1 (.int .u32 (l7.getD 14 0 : Nat))), (0, t_ (.tuple #[.int .u32 ((q4 (l7.getD 3 0) (l7.getD 4 0) (l7.getD 9 0) (l7.getD 14 0)).a : Nat), .int .u32 ((q4 (l7.getD 3 0) (l7.getD 4 0) (l7.getD 9 0) (l7.getD 14 0)).b : Nat), .int .u32 ((q4 (l7.getD 3 0) (l7.getD 4 0) (l7.getD 9 0) (l7.getD 14 0)).c : Nat), .int .u32 ((q4 (l7.getD 3 0) (l7.getD 4 0) (l7.getD 9 0) (l7.getD 14 0)).d : Nat)])), (5, w_ 1), (0, s_ 1 (.cells (cn .u32 (l7.set 3 ((q4 (l7.getD 3 0) (l7.getD 4 0) (l7.getD 9 0) (l7.getD 14 0)).a))) 128)), (0, w_ 1), (0, s_ 1 (.cells (cn .u32 ((l7.set 3 ((q4 (l7.getD 3 0) (l7.getD 4 0) (l7.getD 9 0) (l7.getD 14 0)).a)).set 4 ((q4 (l7.getD 3 0) (l7.getD 4 0) (l7.getD 9 0) (l7.getD 14 0)).b))) 128)), (0, w_ 1), (0, s_ 1 (.cells (cn .u32 (((l7.set 3 ((q4 (l7.getD 3 0) (l7.getD 4 0) (l7.getD 9 0) (l7.getD 14 0)).a)).set 4 ((q4 (l7.getD 3 0) (l7.getD 4 0) (l7.getD 9 0) (l7.getD 14 0)).b)).set 9 ((q4 (l7.getD 3 0) (l7.getD 4 0) (l7.getD 9 0) (l7.getD 14 0)).c))) 128)), (0, w_ 1), (0, s_ 1 (.cells (cn .u32 ((((l7.set 3 ((q4 (l7.getD 3 0) (l7.getD 4 0) (l7.getD 9 0) (l7.getD 14 0)).a)).set 4 ((q4 (l7.getD 3 0) (l7.getD 4 0) (l7.getD 9 0) (l7.getD 14 0)).b)).set 9 ((q4 (l7.getD 3 0) (l7.getD 4 0) (l7.getD 9 0) (l7.getD 14 0)).c)).set 14 ((q4 (l7.getD 3 0) (l7.getD 4 0) (l7.getD 9 0) (l7.getD 14 0)).d))) 128))] 4 [] [] (⟨by decide, rfl, (cn_get _ _ _ (by rw [H7.len]; decide)), by decide, rfl, (cn_get _ _ _ (by rw [H7.len]; decide)), by decide, rfl, (cn_get _ _ _ (by rw [H7.len]; decide)), by decide, rfl, (cn_get _ _ _ (by rw [H7.len]; decide)), (callP_of en_quarter (quarter_any (l7.getD 3 0) (l7.getD 4 0) (l7.getD 9 0) (l7.getD 14 0) (H7.lt 4) (H7.lt 14)) _), by decide, rfl, (by rw [cn_size, H7.len]; decide), (.inl rfl), (cn_set _ _ _ _), by decide, rfl, (by rw [cn_size, (len_set H7.len)]; decide), (.inl rfl), (cn_set _ _ _ _), by decide, rfl, (by rw [cn_size, (len_set (len_set H7.len))]; decide), (.inl rfl), (cn_set _ _ _ _), by decide, rfl, (by rw [cn_size, (len_set (len_set (len_set H7.len)))]; decide), (.inl rfl), (cn_set _ _ _ _), fun _ _ FF12 MM12 => ?_⟩)
    obtain ⟨l8, e8⟩ : ∃ z, qAt l7 3 4 9 14 = z := ⟨_, rfl⟩
    have H8 : Words l8 := e8 ▸ H7.qAt 3 4 9 14
    have MMr47 : MemS _ _ _ [_, (bw, .cells (cn .u32 l8) 128)] _ := MM12.eqA 1 rfl (by rw [← e8] <;> rfl)
    have e9 : l8 = dblN l (i + 1) := by subst e1 e2 e3 e4 e5 e6 e7 e8 e0; rfl
    have MMr49 : MemS _ _ _ [_, (bw, .cells (cn .u32 (dblN l (i + 1))) 128)] _ := MMr47.eqA 1 rfl (by rw [← e9] <;> rfl)
    refine inb_n (then_n ?_)
    refine rg_c FF12 MMr49 [] 4 [] [] (⟨by omega, fun _ _ FF13 MM13 => ?_⟩)
    have hd := cnt_of (FF13.get 0 rfl)
    refine then_n ⟨⟨i + 1, by omega, FF13.pick [0, 1, 2], MM13⟩, ?_⟩
    rw [hc, hd]; omega
  · skip
    refine then_n (.inr ⟨(FF4.ev 0 rfl).trans (dec_f hlt), ?_⟩)
    obtain rfl : i = 10 := by omega
    refine then_n ?_
    refine wp_seq (rg_c FF4 MM4 [(0, b_ 1), (0, b_ 0)] 4 [] [] (⟨rfl, ((cn_size _ _).trans (H.dblN 10).len), rfl, ((cn_size _ _).trans (List.length_replicate ..)), ((cn_size _ _).trans (H.dblN 10).len), (cn_one _ _), rfl, fun _ _ FF14 MM14 => then_n ?_⟩))
    refine wp_ret ?_
    repeat first | refine then_ret ?_ | refine inb_ret ?_
    exact (retc FF14 MM14 (k := 16) (i := 0) (j := 1) Tryz.results92 rfl rfl Tryz.underlying128 rfl (by kernel_rfl) ((cn_size _ _).trans (H.dblN 10).len) ⟨rfl, MM14.below⟩)
end Go.Proofs.YtdjpacgjhcidpabGreatDoor
namespace Go.Proofs.YtdjpacgjhcidpabGreatDoor
open Go.RowKit
set_option maxRecDepth 100000 in
theorem cblk_any (l : List Nat) (H : Words l) (w0 : World) :
    Calls Tryz.prog 69 #[.agg (cn .u32 l)] w0 fun e w' => e = .returned (.agg (cn .u8 (blockW l))) ∧ Below w0.heap.size w0 w' := by
  refine enter_fr Tryz.func69 rfl Tryz.ntmps69 (by simp) fun ac (FF : Fr 45 ac [(0, .agg (cn .u32 l))]) => ?_
  have MM := MemS.start w0
  refine wp_seq (rg_c FF MM [(0, s_ 0 (.cells (cn .u32 l) 128)), (0, s_ 0 (.cells (cn .u8 (List.replicate 64 0)) 131))] 3 [] [0] (⟨(by kernel_rfl), fun bl => ⟨(by kernel_rfl), fun br => fun _ _ FF1 MM1 => then_n ?_⟩⟩))
  refine wp_seq (rg_c FF1 MM1 [(0, s_ 0 (.cells (cn .u8 (List.replicate 64 0)) 131))] 4 [] [] (⟨(by kernel_rfl), fun bb => fun _ _ FF2 MM2 => then_n ?_⟩))
  have MMr4 : MemS _ _ _ [(bb, .cells (cn .u8 (bset (dblN l 10) l 0)) 131), _, _] _ := MM2
  refine wp_seq ?_
  refine wp_seq (rg_c FF2 MMr4 [(0, b_ 2), (0, t_ (.agg (cn .u32 (dblN l 10))))] 9 [] [6] (⟨rfl, ((cn_size _ _).trans H.len), (callP_of en_stirred (stirred_any l H) _), fun _ _ FF3 MM3 => then_n ?_⟩))
  refine wp_for (fun a' w' => ∃ i : Nat, i ≤ 16 ∧ Fr 45 a' [(8, iN i), (7, .agg (cn .u32 (dblN l 10))), (3, pT bb), (2, pT br), (1, pT bl)] ∧ MemS (fun k => k < w0.heap.size) w0 w' [(bb, .cells (cn .u8 (bset (dblN l 10) l i)) 131), (br, .cells (cn .u8 (List.replicate 64 0)) 131), (bl, .cells (cn .u32 l) 128)] []) (fun a' _ => (16 - cnt 8 a').toNat) ⟨0, Nat.zero_le _, FF3.pick [0, 1, 2, 3, 4], MM3⟩ ?_
  rintro ac4 wd4 ⟨i, hi, FF4, MM4⟩
  have hc := cnt_of (FF4.get 0 rfl)
  refine rg_c FF4 MM4 [] 9 [9] [] (fun _ _ FF5 MM5 => ?_)
  by_cases hlt : i < 16
  · skip
    refine then_n (.inl ⟨(FF5.ev 0 rfl).trans (dec_t hlt), ?_⟩)
    refine wp_seq (rg_c FF5 MM5 [(1, t_ (.int .u32 ((dblN l 10).getD i 0 : Nat)))] 9 [] [] (⟨by omega, (cn_get _ _ _ (by rw [(H.dblN 10).len]; omega)), fun _ _ FF6 MM6 => then_n ?_⟩))
    refine wp_seq (rg_c FF6 MM6 [(2, w_ 1), (0, l_ 2 (.int .u32 (l.getD i 0 : Nat))), (0, t_ (.int .u32 (sumW (dblN l 10) l i : Nat)))] 9 [] [] (⟨by omega, rfl, (cn_get _ _ _ (by rw [H.len]; omega)), rfl, fun _ _ FF7 MM7 => then_n ?_⟩))
    refine rg_c FF7 MM7 [(12, t_ (iB (sumW (dblN l 10) l i % 256))), (1, t_ (.int .u32 ((sumW (dblN l 10) l i) / 256 : Nat))), (0, t_ (iB (sumW (dblN l 10) l i / 256 % 256))), (1, t_ (.int .u32 ((sumW (dblN l 10) l i) / 65536 : Nat))), (0, t_ (iB (sumW (dblN l 10) l i / 65536 % 256))), (1, t_ (.int .u32 ((sumW (dblN l 10) l i) / 16777216 : Nat))), (0, t_ (iB (sumW (dblN l 10) l i / 16777216 % 256))), (0, w_ 1), (0, s_ 0 (.cells (cn .u8 ((bset (dblN l 10) l i).set (4 * i) (sumW (dblN l 10) l i % 256))) 131)), (0, w_ 1), (0, s_ 0 (.cells (cn .u8 (((bset (dblN l 10) l i).set (4 * i) (sumW (dblN l 10) l i % 256)).set ((4 * i) + 1) (sumW (dblN l 10) l i / 256 % 256))) 131)), (0, w_ 1), (0, s_ 0 (.cells (cn .u8 ((((bset (dblN l 10) l i).set (4 * i) (sumW (dblN l 10) l i % 256)).set ((4 * i) + 1) (sumW (dblN l 10) l i / 256 % 256)).set ((4 * i) + 2) (sumW (dblN l 10) l i / 65536 % 256))) 131)), (0, w_ 1), (0, s_ 0 (.cells (cn .u8 (((((bset (dblN l 10) l i).set (4 * i) (sumW (dblN l 10) l i % 256)).set ((4 * i) + 1) (sumW (dblN l 10) l i / 256 % 256)).set ((4 * i) + 2) (sumW (dblN l 10) l i / 65536 % 256)).set ((4 * i) + 3) (sumW (dblN l 10) l i / 16777216 % 256))) 131))] 9 [] [] (⟨by omega, by omega, by omega, by omega, by omega, by omega, by omega, rfl, by decide, rfl, rfl, by decide, rfl, rfl, by decide, rfl, rfl, by omega, rfl, (by rw [cn_size, (bset_len _ _ _)]; omega), (.inl rfl), (cn_set _ _ _ _), by omega, rfl, (by rw [cn_size, (len_set (bset_len _ _ _))]; omega), (.inl rfl), (cn_set _ _ _ _), by omega, rfl, (by rw [cn_size, (len_set (len_set (bset_len _ _ _)))]; omega), (.inl rfl), (cn_set _ _ _ _), by omega, rfl, (by rw [cn_size, (len_set (len_set (len_set (bset_len _ _ _))))]; omega), (.inl rfl), (cn_set _ _ _ _), fun _ _ FF8 MM8 => ?_⟩)
    have MMr17 : MemS _ _ _ [(bb, .cells (cn .u8 (bset (dblN l 10) l (i + 1))) 131), _, _] _ := MM8
    refine inb_n (then_n ?_)
    refine rg_c FF8 MMr17 [] 9 [] [] (⟨by omega, fun _ _ FF9 MM9 => ?_⟩)
    have hd := cnt_of (FF9.get 0 rfl)
    refine then_n ⟨⟨i + 1, by omega, FF9.pick [0, 3, 4, 5, 6], MM9⟩, ?_⟩
    rw [hc, hd]; omega
  · skip
    refine then_n (.inr ⟨(FF5.ev 0 rfl).trans (dec_f hlt), ?_⟩)
    obtain rfl : i = 16 := by omega
    refine then_n ?_
    refine wp_seq (rg_c FF5 MM5 [(0, b_ 0), (0, b_ 1)] 9 [] [] (⟨rfl, ((cn_size _ _).trans (bset_len _ _ _)), rfl, ((cn_size _ _).trans (List.length_replicate ..)), ((cn_size _ _).trans (bset_len _ _ _)), (cn_one _ _), rfl, fun _ _ FF10 MM10 => then_n ?_⟩))
    refine wp_ret ?_
    repeat first | refine then_ret ?_ | refine inb_ret ?_
    exact (retc FF10 MM10 (k := 64) (i := 1) (j := 3) Tryz.results69 rfl rfl Tryz.underlying131 rfl (by kernel_rfl) ((cn_size _ _).trans (bset_len _ _ _)) ⟨by rw [bset_all], MM10.below⟩)
set_option maxRecDepth 100000 in
theorem Block_any (ks ns : List Nat) (c : Nat) (hks : Bytes 32 ks) (hc : c < 4294967296) (hns : Bytes 12 ns) (w0 : World) :
    Calls Tryz.prog 63 #[.agg (cn .u8 ks), .int .u32 (c : Nat), .agg (cn .u8 ns)] w0 fun e w' => e = .returned (sB (blockN ks c ns)) ∧ Below w0.heap.size w0 w' := by
  refine enter_fr Tryz.func63 rfl Tryz.ntmps63 (by simp) fun ac (FF : Fr 15 ac [(0, .agg (cn .u8 ks)), (1, .int .u32 (c : Nat)), (2, .agg (cn .u8 ns))]) => ?_
  have MM := MemS.start w0
  have H := laid_words hks hc hns
  refine wp_seq (rg_c FF MM [(0, s_ 0 (.cells (cn .u8 ks) 23)), (0, s_ 0 (.cells (cn .u8 ns) 56)), (0, t_ (sB []))] 7 [] [0, 2] (⟨(by kernel_rfl), fun bk => ⟨(by kernel_rfl), fun bn => ⟨(by kernel_rfl), fun _ _ FF1 MM1 => then_n ?_⟩⟩⟩))
  refine wp_seq (rg_c FF1 MM1 [(0, b_ 1), (1, b_ 0), (0, t_ (.agg (cn .u32 (laid ks c ns)))), (0, t_ (.agg (cn .u8 (blockN ks c ns)))), (0, s_ 0 (.cells (cn .u8 (List.replicate 64 0)) 131)), (0, b_ 0)] 0 [6, 7] [] (⟨rfl, ((cn_size _ _).trans hks.len), rfl, ((cn_size _ _).trans hns.len), (callP_of en_laid (laid_any ks ns c ⟨hks.len, hks.lt⟩ ⟨hns.len, hns.lt⟩) _), (callP_of en_cblk (cblk_any (laid ks c ns) H) _), (by kernel_rfl), fun bb => ⟨rfl, ((cn_size _ _).trans (List.length_replicate ..)), ((cn_size _ _).trans (blockW_len _)), (cn_one _ _), rfl, fun _ _ FF2 MM2 => then_n ?_⟩⟩))
  refine wp_seq (rg_c FF2 MM2 [(1, l_ 0 (sB (blockN ks c ns)))] 8 [] [] (⟨by decide, by decide, by decide, rfl, (str_all (blockW_len _) (blockW_lt _)), fun _ _ FF3 MM3 => then_n ?_⟩))
  refine wp_ret ?_
  repeat first | refine then_ret ?_ | refine inb_ret ?_
  exact (ret_fr FF3 0 Tryz.results63 rfl ⟨rfl, MM3.below⟩)
end Go.Proofs.YtdjpacgjhcidpabGreatDoor
namespace Go.Proofs.YtdjpacgjhcidpabGreatDoor
open Go.RowKit
set_option maxRecDepth 100000 in
theorem cturn_any (X B : List Nat) (hX : ∀ i, X.getD i 0 < 256) (hBl : B.length = 64) (hB : ∀ i, B.getD i 0 < 256) (b f n cap j : Nat) (fr : Nat × Nat) (hn : f + n ≤ X.length) (hfr : ∀ i, i < min 64 n → fr.2 = 0 ∨ f + i < fr.1) (L : Blks) (hj : L[j]? = some (b, .cells (cn .u8 X) 5 fr)) (w0 : World) (H : Has w0 L) :
    Calls Tryz.prog 68 #[.slice (some ⟨b, f, none⟩) n cap, .agg (cn .u8 B)] w0 fun e w' => e = .returned (.tuple #[]) ∧ Post w0 w' L ⟨fun _ => .tuple #[], none, [(j, .cells (cn .u8 (xorTo X f B (min 64 n))) 5 fr)]⟩ 0 := by
  have MM := MemS.start1 (H j _ hj)
  refine enter_fr Tryz.func68 rfl Tryz.ntmps68 (by simp) fun ac (FF : Fr 21 ac [(0, .slice (some ⟨b, f, none⟩) n cap), (1, .agg (cn .u8 B))]) => ?_
  refine wp_seq (rg_c FF MM [(0, s_ 0 (.cells (cn .u8 B) 131))] 1 [3] [] (⟨(by kernel_rfl), fun bb => fun _ _ FF1 MM1 => then_n ?_⟩))
  obtain ⟨m, hm⟩ : ∃ z, min 64 n = z := ⟨_, rfl⟩
  refine wp_seq (rg_c FF1 MM1 [(2, f_ (iN m))] 4 [7, 8] [] (⟨(min_ok (t := 3) (u := 3) (x := (.const (iN 64))) (y := (.tmp 6)) (k := .i64) (m := 64) (n := n) (r := m) (by kernel_rfl) rfl rfl hm), fun _ _ FF2 MM2 => then_n ?_⟩))
  have MMr5 : MemS _ _ _ [_, (b, .cells (cn .u8 (xorTo X f B 0)) 5 fr)] _ := MM2
  refine wp_for (fun a' w' => ∃ i : Nat, i ≤ m ∧ Fr 21 a' [(8, iN i), (7, iN m), (3, pT bb), (0, .slice (some ⟨b, f, none⟩) n cap)] ∧ MemS (fun k => k < w0.heap.size ∧ k ≠ b) w0 w' [(bb, .cells (cn .u8 B) 131), (b, .cells (cn .u8 (xorTo X f B i)) 5 fr)] []) (fun a' _ => (m - cnt 8 a').toNat) ⟨0, Nat.zero_le _, FF2.pick [0, 1, 2, 3], MMr5⟩ ?_
  rintro ac3 wd3 ⟨i, hi, FF3, MM3⟩
  have hc := cnt_of (FF3.get 0 rfl)
  refine rg_c FF3 MM3 [] 9 [9] [] (fun _ _ FF4 MM4 => ?_)
  by_cases hlt : i < m
  · skip
    refine then_n (.inl ⟨(FF4.ev 0 rfl).trans (dec_t hlt), ?_⟩)
    refine wp_seq (rg_c FF4 MM4 [] 9 [] [] (fun _ _ FF5 MM5 => then_n ?_))
    refine rg_dc 9 FF5 MM5 [(3, l_ 1 (iB (X.getD (f + i) 0))), (1, w_ 1), (0, l_ 0 (iB (B.getD i 0)))] [(0, s_ 1 (.cells (cn .u8 (xorTo X f B (i + 1))) 5))] 9 [] [] (⟨by omega, rfl, ((cn_get _ _ _ (by rw [xorTo_len]; omega)).trans (congrArg some (vI ((xorTo_get X f B (f + i) i (by omega)).trans (if_neg (by omega)))))), by omega, rfl, (cn_get _ _ _ (by rw [hBl]; omega)), (hX (f + i)), (hB i), by omega, rfl, (by rw [cn_size, (xorTo_len _ _ _ _)]; omega), (hfr i (by omega)), (cn_set _ _ _ _), fun _ _ FF6 MM6 => ?_⟩)
    refine inb_n (then_n ?_)
    refine rg_c FF6 MM6 [] 9 [] [] (⟨by omega, fun _ _ FF7 MM7 => ?_⟩)
    have hd := cnt_of (FF7.get 0 rfl)
    refine then_n ⟨⟨i + 1, by omega, FF7.pick [0, 2, 3, 4], MM7⟩, ?_⟩
    rw [hc, hd]; omega
  · skip
    refine then_n (.inr ⟨(FF4.ev 0 rfl).trans (dec_f hlt), ?_⟩)
    obtain rfl : m = i := by omega
    subst hm
    exact (end_none FF4 Tryz.results68 ⟨rfl, MM4.post1 1 rfl hj⟩)
end Go.Proofs.YtdjpacgjhcidpabGreatDoor
namespace Go.Proofs.YtdjpacgjhcidpabGreatDoor
open Go.RowKit
theorem laid_len (ks : List Nat) (c : Nat) (ns : List Nat) : (laid ks c ns).length = 16 := rfl
theorem sl_eq {b o o' n n' c c' : Nat} (h1 : o = o') (h2 : n = n') (h3 : c = c') : Value.slice (some ⟨b, o, none⟩) n c = Value.slice (some ⟨b, o', none⟩) n' c' := by subst h1 h2 h3; rfl
theorem mask_str {ks ns X : List Nat} {c q k : Nat} (hX : ∀ i, X.getD i 0 < 256) (h : X.length ≤ 64 * k) : StrAt (cn .u8 (mTo ks c ns (X ++ List.replicate q 0) X.length k)) 0 X.length (bs (maskN ks c ns X)) := by
  have h1 := str_part (X := mTo ks c ns (X ++ List.replicate q 0) X.length k) (n := X.length + q) (off := 0) (len := X.length) ((mTo_len _ _ _ _ _ _).trans (rep_len _ _)) (mTo_lt ks c ns _ X.length (by rw [rep_len]; omega) (rep_lt hX q) k) (by omega)
  rwa [List.drop_zero, mTo_all _ _ _ _ _ _ h] at h1
set_option maxHeartbeats 1000000 in
set_option maxRecDepth 100000 in
theorem Mask_any (ks ns X : List Nat) (c : Nat) (hks : Bytes 32 ks) (hc : c < 4294967296) (hns : Bytes 12 ns) (hX : ∀ i, X.getD i 0 < 256) (w0 : World) :
    Calls Tryz.prog 42 #[.agg (cn .u8 ks), .int .u32 (c : Nat), .agg (cn .u8 ns), sB X] w0 fun e w' => e = .returned (sB (maskN ks c ns X)) ∧ Below w0.heap.size w0 w' := by
  refine enter_fr Tryz.func42 rfl Tryz.ntmps42 (by simp) fun ac (FF : Fr 37 ac [(0, .agg (cn .u8 ks)), (1, .int .u32 (c : Nat)), (2, .agg (cn .u8 ns)), (3, sB X)]) => ?_
  have MM := MemS.start w0
  have HW : ∀ k, Words (laid ks ((c + k) % 4294967296) ns) := fun k => laid_words hks (Nat.mod_lt _ (by decide)) hns
  refine wp_seq (rg_c FF MM [(0, s_ 0 (.cells (cn .u8 ks) 23)), (0, s_ 0 (.cells (cn .u8 ns) 56)), (0, t_ (sB []))] 9 [] [0, 2] (⟨(by kernel_rfl), fun bk => ⟨(by kernel_rfl), fun bn => ⟨(by kernel_rfl), fun _ _ FF1 MM1 => then_n ?_⟩⟩⟩))
  refine wp_seq (wp_region_list ?_)
  refine rp_c 1 FF1 MM1 [] 13 [] [3] (fun _ _ FF2 MM2 => ?_)
  refine st_new [8, 6, 4, 1, 13] FF2 MM2 (d := 13) (bytes_ok (e := 5) (x := (.tmp 12)) (by kernel_rfl) rfl hX Tryz.underlying9 Tryz.underlying59 Tryz.underlying5) rfl rfl (by decide) fun ac4 wd4 bo cz3 FF4 MM4 => ?_
  refine rp_c 1 FF4 MM4 [] 9 [9] [] (fun _ _ FF5 MM5 => ?_)
  refine wpl_nil (then_n ?_)
  have MMr9 : MemS _ _ _ [(bo, .cells (cn .u8 (mTo ks c ns (X ++ List.replicate cz3 0) X.length 0)) 5 (X.length + cz3, X.length + cz3 + 1)), _, _] _ := MM5
  refine wp_seq (rg_c FF5 MMr9 [(0, b_ 2), (1, b_ 1), (0, t_ (.agg (cn .u32 (laid ks c ns)))), (0, s_ 0 (.cells (cn .u32 (List.replicate 16 0)) 128)), (0, b_ 0)] 0 [9, 8, 10] [] (⟨rfl, ((cn_size _ _).trans hks.len), rfl, ((cn_size _ _).trans hns.len), (callP_of en_laid (laid_any ks ns c ⟨hks.len, hks.lt⟩ ⟨hns.len, hns.lt⟩) _), (by kernel_rfl), fun bw => ⟨rfl, ((cn_size _ _).trans (List.length_replicate ..)), ((cn_size _ _).trans rfl), (cn_one _ _), rfl, fun _ _ FF6 MM6 => then_n ?_⟩⟩))
  have MMr11 : MemS _ _ _ [(bw, .cells (cn .u32 (laid ks ((c + 0) % 4294967296) ns)) 128), _, _, _] _ := MM6.eqA 0 rfl (by rw [show (c + 0) % 4294967296 = c by omega] <;> rfl)
  refine wp_seq ?_
  refine wp_seq (rg_c FF6 MMr11 [(0, t_ (.slice (some ⟨bo, 0, none⟩) (X.length - min (64 * 0) X.length) (X.length + cz3 - min (64 * 0) X.length)))] 12 [] [] (⟨(sl_eq (by omega) (by omega) (by omega)), fun _ _ FF7 MM7 => then_n ?_⟩))
  refine wp_for2 (fun a' w' => ∃ k : Nat, ∃ o : Nat, (64 * k < X.length → o = 64 * k) ∧ Fr 37 a' [(11, .slice (some ⟨bo, o, none⟩) (X.length - min (64 * k) X.length) (X.length + cz3 - min (64 * k) X.length)), (10, pT bw), (9, .slice (some ⟨bo, 0, none⟩) X.length (X.length + cz3)), (8, sB [])] ∧ MemS (fun k => k < w0.heap.size) w0 w' [(bw, .cells (cn .u32 (laid ks ((c + k) % 4294967296) ns)) 128), (bo, .cells (cn .u8 (mTo ks c ns (X ++ List.replicate cz3 0) X.length k)) 5 (X.length + cz3, X.length + cz3 + 1)), (bn, .cells (cn .u8 ns) 56), (bk, .cells (cn .u8 ks) 23)] []) (fun a' _ => lenAt 11 a') ⟨0, 0, (fun _ => by omega), FF7.pick [0, 1, 2, 3], MM7⟩ ?_
  rintro ac8 wd8 ⟨k, o, ho, FF8, MM8⟩
  have hc1 := lenAt_of (FF8.get 0 rfl)
  refine rg_c FF8 MM8 [] 12 [21] [] (fun _ _ FF9 MM9 => ?_)
  by_cases hlt : (X.length - min (64 * k) X.length) > 0
  · skip
    refine then_n (.inl ⟨(FF9.ev 0 rfl).trans (dec_t hlt), ?_⟩)
    obtain rfl : o = min (64 * k) X.length := by omega
    refine wp_seq (rg_c FF9 MM9 [(1, b_ 0), (0, t_ (.agg (cn .u8 (blockN ks ((c + k) % 4294967296) ns)))), (0, c_ (.tuple #[]) [(1, .cells (cn .u8 (xorTo (mTo ks c ns (X ++ List.replicate cz3 0) X.length k) (min (64 * k) X.length) (blockN ks ((c + k) % 4294967296) ns) (min 64 (X.length - min (64 * k) X.length)))) 5 (X.length + cz3, X.length + cz3 + 1))])] 12 [] [] (⟨rfl, ((cn_size _ _).trans (laid_len ks ((c + k) % 4294967296) ns)), (callP_of en_cblk (cblk_any (laid ks ((c + k) % 4294967296) ns) (HW k)) _), ⟨en_cturn, fun w H => cturn_any (mTo ks c ns (X ++ List.replicate cz3 0) X.length k) (blockN ks ((c + k) % 4294967296) ns) (mTo_lt ks c ns _ X.length (by rw [rep_len]; omega) (rep_lt hX cz3) k) (blockW_len _) (blockW_lt _) _ _ _ _ 1 _ (by rw [mTo_len, rep_len]; omega) (fun i hi => .inr (show _ < X.length + cz3 by omega)) _ rfl w H⟩, fun _ _ FF10 MM10 => then_n ?_⟩))
    have MMr23 : MemS _ _ _ [_, (bo, .cells (cn .u8 (mTo ks c ns (X ++ List.replicate cz3 0) X.length (k + 1))) 5 (X.length + cz3, X.length + cz3 + 1)), _, _] _ := MM10
    refine rg_c FF10 MMr23 [(0, w_ 1), (0, l_ 0 (.int .u32 ((c + k) % 4294967296 : Nat))), (0, t_ (.int .u32 ((c + (k + 1)) % 4294967296 : Nat))), (0, w_ 1), (0, s_ 0 (.cells (cn .u32 (laid ks ((c + (k + 1)) % 4294967296) ns)) 128))] 12 [] [] (⟨by decide, rfl, rfl, (vI (by omega)), by decide, rfl, (by rw [cn_size, (laid_len ks ((c + k) % 4294967296) ns)]; decide), (.inl rfl), (cn_set _ _ _ _), fun _ _ FF11 MM11 => ?_⟩)
    refine inb_n (then_n ?_)
    by_cases hq : min 64 (X.length - min (64 * k) X.length) < X.length + cz3 - min (64 * k) X.length
    · skip
      refine rg_c FF11 MM11 [(3, f_ (iN (min 64 (X.length - min (64 * k) X.length)))), (0, t_ (.slice (some ⟨bo, min (64 * k) X.length + min 64 (X.length - min (64 * k) X.length), none⟩) (X.length - min (64 * (k + 1)) X.length) (X.length + cz3 - min (64 * (k + 1)) X.length)))] 12 [] [] (⟨(min_ok (t := 3) (u := 3) (x := (.const (iN 64))) (y := (.tmp 24)) (k := .i64) (m := 64) (n := X.length - min (64 * k) X.length) (r := min 64 (X.length - min (64 * k) X.length)) (by kernel_rfl) rfl rfl rfl), by omega, by omega, by omega, (sl_eq rfl (by omega) (by omega)), fun _ _ FF12 MM12 => ?_⟩)
      have hd1 := lenAt_of (FF12.get 0 rfl)
      refine then_n ⟨⟨k + 1, min (64 * k) X.length + min 64 (X.length - min (64 * k) X.length), (fun _ => by omega), FF12.pick [0, 1, 2, 3], MM12⟩, ?_⟩
      rw [hc1, hd1]; omega
    · skip
      refine rg_c FF11 MM11 [(3, f_ (iN (min 64 (X.length - min (64 * k) X.length)))), (0, u_ 1 (.slice (some ⟨bo, min (64 * k) X.length, none⟩) (X.length - min (64 * (k + 1)) X.length) (X.length + cz3 - min (64 * (k + 1)) X.length)))] 12 [] [] (⟨(min_ok (t := 3) (u := 3) (x := (.const (iN 64))) (y := (.tmp 24)) (k := .i64) (m := 64) (n := X.length - min (64 * k) X.length) (r := min 64 (X.length - min (64 * k) X.length)) (by kernel_rfl) rfl rfl rfl), by omega, by omega, by omega, (sl_eq rfl (by omega) (by omega)), fun _ _ FF13 MM13 => ?_⟩)
      have hd1 := lenAt_of (FF13.get 0 rfl)
      refine then_n ⟨⟨k + 1, min (64 * k) X.length, (fun _ => by omega), FF13.pick [0, 1, 2, 3], MM13⟩, ?_⟩
      rw [hc1, hd1]; omega
  · skip
    refine then_n (.inr ⟨(FF9.ev 0 rfl).trans (dec_f hlt), ?_⟩)
    refine then_n ?_
    refine wp_seq (rg_c FF9 MM9 [(1, l_ 1 (sB (maskN ks c ns X)))] 12 [] [] (⟨rfl, (mask_str hX (by omega)), fun _ _ FF14 MM14 => then_n ?_⟩))
    refine wp_ret ?_
    repeat first | refine then_ret ?_ | refine inb_ret ?_
    exact (ret_fr FF14 0 Tryz.results42 rfl ⟨rfl, MM14.below⟩)
end Go.Proofs.YtdjpacgjhcidpabGreatDoor
namespace Go.Proofs.YtdjpacgjhcidpabGreatDoor
open Go.RowKit
theorem en_Seal : Enters Tryz.prog 38 := fun args w => by simp [go_sem]
theorem en_Open : Enters Tryz.prog 19 := fun args w => by simp [go_sem]
theorem en_atag : Enters Tryz.prog 41 := fun args w => by simp [go_sem]
theorem en_missing : Enters Tryz.prog 65 := fun args w => by simp [go_sem]
theorem en_length : Enters Tryz.prog 66 := fun args w => by simp [go_sem]
theorem en_Mask : Enters Tryz.prog 42 := fun args w => by simp [go_sem]
theorem en_Block : Enters Tryz.prog 63 := fun args w => by simp [go_sem]
theorem en_Sum : Enters Tryz.prog 64 := fun args w => by simp [go_sem]
set_option maxRecDepth 100000 in
theorem missing_any (X : List Nat) (_hX : ∀ i, X.getD i 0 < 256) (w0 : World) :
    Calls Tryz.prog 65 #[sB X] w0 fun e w' => e = .returned (sB (missN X)) ∧ Below w0.heap.size w0 w' := by
  refine enter_fr Tryz.func65 rfl Tryz.ntmps65 (by simp) fun ac (FF : Fr 12 ac [(0, sB X)]) => ?_
  have MM := MemS.start w0
  refine wp_seq (rg_c FF MM [(0, t_ (sB []))] 3 [] [] (⟨(by kernel_rfl), fun _ _ FF1 MM1 => then_n ?_⟩))
  refine wp_seq (rg_c FF1 MM1 [(1, t_ (iN X.length))] 4 [] [0] (⟨(vI (bs_size _)), by decide, fun _ _ FF2 MM2 => then_n ?_⟩))
  refine wp_seq ?_
  refine wp_seq (rg_c FF2 MM2 [] 4 [8] [] (fun _ _ FF3 MM3 => then_n ?_))
  by_cases hs8 : (X.length % 16) = 0
  · refine wp_cond_true ((FF3.ev 0 rfl).trans (dec_t hs8)) ?_
    refine wp_seq (rg_c FF3 MM3 [(0, t_ (sB (missN X)))] 4 [] [] (⟨(Eq.trans (show _ = sB [] by kernel_rfl) (vS (by rw [missN, hs8]; rfl))), fun _ _ FF4 MM4 => then_n ?_⟩))
    refine wp_ret ?_
    repeat first | refine then_ret ?_ | refine inb_ret ?_
    exact (ret_fr FF4 0 Tryz.results65 rfl ⟨rfl, MM4.below⟩)
  · refine wp_cond_false ((FF3.ev 0 rfl).trans (dec_f hs8)) ?_
    refine wp_skip ?_
    refine then_n ?_
    refine wp_seq (rg_c FF3 MM3 [(2, t_ (sB (missN X)))] 4 [] [] (⟨by omega, by omega, (Nat.zero_le _), (by show _ ≤ 15; omega), (vS2 ((bs_extract _ _ _).trans (congrArg bs ((noughts_cut (by omega)).trans (by rw [missN, Nat.mod_eq_of_lt (show 16 - X.length % 16 < 16 by omega)]))))), fun _ _ FF5 MM5 => then_n ?_⟩))
    refine wp_ret ?_
    repeat first | refine then_ret ?_ | refine inb_ret ?_
    exact (ret_fr FF5 0 Tryz.results65 rfl ⟨rfl, MM5.below⟩)
set_option maxRecDepth 100000 in
theorem length_any (X : List Nat) (hl : X.length < 4611686018427387904) (w0 : World) :
    Calls Tryz.prog 66 #[sB X] w0 fun e w' => e = .returned (sB (leB 8 X.length)) ∧ Below w0.heap.size w0 w' := by
  refine enter_fr Tryz.func66 rfl Tryz.ntmps66 (by simp) fun ac (FF : Fr 20 ac [(0, sB X)]) => ?_
  have MM := MemS.start w0
  refine wp_seq (rg_c FF MM [(0, t_ (sB []))] 3 [] [] (⟨(by kernel_rfl), fun _ _ FF1 MM1 => then_n ?_⟩))
  refine wp_seq (rg_c FF1 MM1 [(0, s_ 0 (.cells (cn .u8 (List.replicate 8 0)) 161))] 4 [] [] (⟨(by kernel_rfl), fun bo => fun _ _ FF2 MM2 => then_n ?_⟩))
  have MMr4 : MemS _ _ _ [(bo, .cells (cn .u8 (genL 8 (fun i => X.length / 256 ^ i % 256) 0)) 161)] _ := MM2.eqA 0 rfl (by rw [← genL_zero 8 (fun i => X.length / 256 ^ i % 256)] <;> rfl)
  refine wp_seq ?_
  refine wp_seq (rg_c FF2 MMr4 [] 6 [] [] (fun _ _ FF3 MM3 => then_n ?_))
  refine wp_for (fun a' w' => ∃ j : Nat, j ≤ 8 ∧ Fr 20 a' [(5, iN j), (3, pT bo), (2, sB []), (0, sB X)] ∧ MemS (fun k => k < w0.heap.size) w0 w' [(bo, .cells (cn .u8 (genL 8 (fun i => X.length / 256 ^ i % 256) j)) 161)] []) (fun a' _ => (8 - cnt 5 a').toNat) ⟨0, by omega, FF3.pick [0, 1, 2, 3], MM3⟩ ?_
  rintro ac4 wd4 ⟨j, hj, FF4, MM4⟩
  have hcj := cnt_of (FF4.get 0 rfl)
  refine rg_c FF4 MM4 [] 7 [] [] (fun _ _ FF5 MM5 => ?_)
  by_cases hltj : j < 8
  · skip
    refine then_n (.inl ⟨(FF5.ev 0 rfl).trans (dec_t hltj), ?_⟩)
    refine wp_seq (rg_c FF5 MM5 [] 6 [] [] (fun _ _ FF6 MM6 => then_n ?_))
    refine rg_c FF6 MM6 [(2, t_ (iN X.length)), (0, w_ 1), (4, w_ 1), (0, s_ 0 (.cells (cn .u8 (genL 8 (fun i => X.length / 256 ^ i % 256) (j + 1))) 161))] 6 [] [] (⟨(vI (bs_size _)), by omega, by omega, (by show _ ≤ 64; omega), by omega, rfl, (by rw [cn_size, (genL_len _ _ _)]; omega), (.inl rfl), ((cn_set _ _ _ _).trans (congrArg _ (genL_step _ _ j (by omega) (by rw [Nat.pow_mul])))), fun _ _ FF7 MM7 => ?_⟩)
    refine inb_n (then_n ?_)
    refine rg_c FF7 MM7 [] 6 [] [] (⟨by omega, fun _ _ FF8 MM8 => ?_⟩)
    have hdj := cnt_of (FF8.get 0 rfl)
    refine then_n ⟨⟨j + 1, by omega, FF8.pick [0, 2, 3, 4], MM8⟩, ?_⟩
    rw [hcj, hdj]; omega
  · skip
    refine then_n (.inr ⟨(FF5.ev 0 rfl).trans (dec_f hltj), ?_⟩)
    obtain rfl : j = 8 := by omega
    have MMl : MemS _ _ _ [(bo, .cells (cn .u8 (leB 8 X.length)) 161)] _ := MM5.eqA 0 rfl (by rw [← gen_leB8 8 X.length] <;> rfl)
    refine then_n ?_
    refine wp_seq (rg_c FF5 MMl [(1, l_ 0 (sB (leB 8 X.length)))] 6 [] [] (⟨by decide, by decide, by decide, rfl, (str_all (leB_len _ _) (leB_lt 8 X.length)), fun _ _ FF9 MM9 => then_n ?_⟩))
    refine wp_ret ?_
    repeat first | refine then_ret ?_ | refine inb_ret ?_
    exact (ret_fr FF9 0 Tryz.results66 rfl ⟨rfl, MM9.below⟩)
theorem six_lt {A B C D E F : List Nat} (h1 : ∀ i, A.getD i 0 < 256) (h2 : ∀ i, B.getD i 0 < 256) (h3 : ∀ i, C.getD i 0 < 256) (h4 : ∀ i, D.getD i 0 < 256) (h5 : ∀ i, E.getD i 0 < 256) (h6 : ∀ i, F.getD i 0 < 256) : ∀ V ∈ [A, B, C, D, E, F], ∀ i, V.getD i 0 < 256 := fun V hV => by
  simp only [List.mem_cons, List.not_mem_nil, or_false] at hV
  rcases hV with rfl | rfl | rfl | rfl | rfl | rfl <;> assumption
theorem six_at (A B C D E F : List Nat) : ∀ j, j < [A, B, C, D, E, F].length → (#[sB A, sB B, sB C, sB D, sB E, sB F] : Array Value)[j]? = some (sB ([A, B, C, D, E, F].getD j [])) := fun j h => by
  have : j = 0 ∨ j = 1 ∨ j = 2 ∨ j = 3 ∨ j = 4 ∨ j = 5 := by simp at h; omega
  rcases this with rfl | rfl | rfl | rfl | rfl | rfl <;> rfl
set_option maxRecDepth 100000 in
theorem atag_any (K N : List Nat) (hK : Bytes 32 K) (hN : Bytes 12 N) (E C : List Nat) (hE : ∀ i, E.getD i 0 < 256) (hC : ∀ i, C.getD i 0 < 256) (hl : E.length < 4611686018427387904) (hl2 : C.length < 4611686018427387904) (w0 : World) :
    Calls Tryz.prog 41 #[.agg (cn .u8 K), .agg (cn .u8 N), sB E, sB C] w0 fun e w' => e = .returned (.agg (cn .u8 (tagA K N E C))) ∧ Below w0.heap.size w0 w' := by
  refine enter_fr Tryz.func41 rfl Tryz.ntmps41 (by simp) fun ac (FF : Fr 30 ac [(0, .agg (cn .u8 K)), (1, .agg (cn .u8 N)), (2, sB E), (3, sB C)]) => ?_
  have MM := MemS.start w0
  refine wp_seq (rg_c FF MM [(0, s_ 0 (.cells (cn .u8 K) 23)), (0, s_ 0 (.cells (cn .u8 N) 56)), (0, s_ 0 (.cells (cn .u8 (List.replicate 16 0)) 89))] 9 [] [0, 1] (⟨(by kernel_rfl), fun bk => ⟨(by kernel_rfl), fun bn => ⟨(by kernel_rfl), fun bt => fun _ _ FF1 MM1 => then_n ?_⟩⟩⟩))
  refine wp_seq (wp_region_list ?_)
  refine rp_c 4 FF1 MM1 [(0, b_ 2), (0, b_ 1), (0, t_ (sB (blockN K 0 N))), (0, t_ (sB (onceN K N)))] 4 [8, 13] [] (⟨rfl, ((cn_size _ _).trans hK.len), rfl, ((cn_size _ _).trans hN.len), (callP_of en_Block (Block_any K N 0 ⟨hK.len, hK.lt⟩ (by decide) ⟨hN.len, hN.lt⟩) _), (Nat.zero_le _), (by rw [bs_size, show (blockN K 0 N).length = 64 from (blockW_len _)]; omega), (vS2 ((bs_extract _ _ _).trans (congrArg bs (List.drop_zero ..)))), fun _ _ FF2 MM2 => ?_⟩)
  refine st_new [8, 2, 3, 14] FF2 MM2 (d := 14) (bytes_ok (e := 5) (x := (.tmp 13)) (by kernel_rfl) rfl (onceN_bytes K N).lt Tryz.underlying9 Tryz.underlying59 Tryz.underlying5) rfl rfl (by decide) fun ac4 wd4 bz cz3 FF4 MM4 => ?_
  refine rp_c 4 FF4 MM4 [(1, l_ 0 (.agg (cn .u8 (onceN K N)))), (0, s_ 0 (.cells (cn .u8 (List.replicate 32 0)) 23)), (0, b_ 0)] 9 [9] [] (⟨(by rw [(onceN_bytes K N).len]; decide), rfl, (part_rep _ _), ((cn_size _ _).trans (onceN_bytes K N).len), (by kernel_rfl), fun bo => ⟨rfl, ((cn_size _ _).trans (List.length_replicate ..)), ((cn_size _ _).trans (onceN_bytes K N).len), (cn_one _ _), rfl, fun _ _ FF5 MM5 => ?_⟩⟩)
  refine wpl_nil (then_n ?_)
  refine wp_seq (rg_draw FF5 MM5 [.inl (.agg (cn .u8 (onceN K N))), .inl (sB E), .inl (sB E), .inl (sB (missN E)), .inl (sB C), .inl (sB C), .inl (sB (missN C)), .inl (sB E), .inl (sB (leB 8 E.length)), .inl (sB C), .inl (sB (leB 8 C.length)), .inr (oC #[sB E, sB (missN E), sB C, sB (missN C), sB (leB 8 E.length), sB (leB 8 C.length)] 9, fun b => .slice (some ⟨b, 0, none⟩) 6 6), .inl (.agg (cn .u8 (tagA K N E C)))] [] [b_ 0, o_, o_, t_ (sB (missN E)), o_, o_, t_ (sB (missN C)), o_, t_ (sB (leB 8 E.length)), o_, t_ (sB (leB 8 C.length)), o_, u_ 1 (.agg (cn .u8 (tagA K N E C)))] [b_ 2] [9, 8] (fun nb => [bo = bo, (cn .u8 (onceN K N)).size = 32, CallP Tryz.prog 65 [sB E] [] (sB (missN E)), CallP Tryz.prog 65 [sB C] [] (sB (missN C)), CallP Tryz.prog 66 [sB E] [] (sB (leB 8 E.length)), CallP Tryz.prog 66 [sB C] [] (sB (leB 8 C.length)), CallP Tryz.prog 64 [.agg (cn .u8 (onceN K N)), .slice (some ⟨(nb 11), 0, none⟩) 6 6] [((nb 11), oC #[sB E, sB (missN E), sB C, sB (missN C), sB (leB 8 E.length), sB (leB 8 C.length)] 9), (bo, .cells (cn .u8 (onceN K N)) 23), (bz, .cells (cn .u8 ((onceN K N) ++ List.replicate cz3 0)) 5 ((onceN K N).length + cz3, (onceN K N).length + cz3 + 1)), (bt, .cells (cn .u8 (List.replicate 16 0)) 89), (bn, .cells (cn .u8 N) 56), (bk, .cells (cn .u8 K) 23)] (.agg (cn .u8 (tagA K N E C)))]) (fun nb Kt => bt = bt ∧ (cn .u8 (List.replicate 16 0)).size = 16 ∧ (cn .u8 (tagA K N E C)).size = 16 ∧ (cn .u8 (tagA K N E C)).all (·.oneCell') = true ∧ (0, 0).2 = 0 ∧ Kt [(9, pT bo), (8, pT bt)] [(bo, .cells (cn .u8 (onceN K N)) 23), (bz, .cells (cn .u8 ((onceN K N) ++ List.replicate cz3 0)) 5 ((onceN K N).length + cz3, (onceN K N).length + cz3 + 1)), (bt, .cells (cn .u8 (tagA K N E C)) 89), (bn, .cells (cn .u8 N) 56), (bk, .cells (cn .u8 K) 23)]) (by kernel_rfl) (by kernel_rfl) (by kernel_rfl) (fun _ => by kernel_rfl) (fun _ _ => by kernel_rfl) trivial (fun nb => ⟨rfl, ((cn_size _ _).trans (onceN_bytes K N).len), (callP_of en_missing (missing_any E hE) _), (callP_of en_missing (missing_any C hC) _), (callP_of en_length (length_any E (by omega)) _), (callP_of en_length (length_any C (by omega)) _), ⟨en_Sum, fun w H => by have h0 := sum_any _ (onceN_bytes K N) [E, missN E, C, missN C, leB 8 E.length, leB 8 C.length] (six_lt hE (missN_lt E) hC (missN_lt C) (leB_lt 8 _) (leB_lt 8 _)) (by simp) _ 6 _ _ _ (six_at _ _ _ _ _ _) w (H 0 _ rfl); rw [tagT_flat] at h0; exact h0⟩, trivial⟩) (fun nb => ⟨rfl, ((cn_size _ _).trans (List.length_replicate ..)), ((cn_size _ _).trans (tagA_len _ _ _ _)), (cn_one _ _), rfl, fun _ _ FF6 MM6 => then_n ?_⟩))
  refine wp_ret ?_
  repeat first | refine then_ret ?_ | refine inb_ret ?_
  exact (retc FF6 MM6 (k := 16) (i := 2) (j := 1) Tryz.results41 rfl rfl Tryz.underlying89 rfl (by kernel_rfl) ((cn_size _ _).trans (tagA_len _ _ _ _)) ⟨rfl, MM6.below⟩)
set_option maxRecDepth 100000 in
theorem seal_any (K N : List Nat) (hK : Bytes 32 K) (hN : Bytes 12 N) (E X : List Nat) (hE : ∀ i, E.getD i 0 < 256) (hX : ∀ i, X.getD i 0 < 256) (hl : E.length < 4611686018427387904) (hl2 : X.length < 4611686018427387904) (w0 : World) :
    Calls Tryz.prog 38 #[.agg (cn .u8 K), .agg (cn .u8 N), sB E, sB X] w0 fun e w' => e = .returned (sB (sealN K N E X)) ∧ Below w0.heap.size w0 w' := by
  refine enter_fr Tryz.func38 rfl Tryz.ntmps38 (by simp) fun ac (FF : Fr 24 ac [(0, .agg (cn .u8 K)), (1, .agg (cn .u8 N)), (2, sB E), (3, sB X)]) => ?_
  have MM := MemS.start w0
  refine wp_seq (rg_c FF MM [(0, s_ 0 (.cells (cn .u8 K) 23)), (0, s_ 0 (.cells (cn .u8 N) 56)), (0, t_ (sB []))] 9 [] [0, 1] (⟨(by kernel_rfl), fun bk => ⟨(by kernel_rfl), fun bn => ⟨(by kernel_rfl), fun _ _ FF1 MM1 => then_n ?_⟩⟩⟩))
  refine wp_seq (rg_c FF1 MM1 [(0, b_ 1), (0, b_ 0), (1, t_ (sB (maskN K 1 N X)))] 9 [9] [3] (⟨rfl, ((cn_size _ _).trans hK.len), rfl, ((cn_size _ _).trans hN.len), (callP_of en_Mask (Mask_any K N X 1 ⟨hK.len, hK.lt⟩ (by decide) ⟨hN.len, hN.lt⟩ hX) _), fun _ _ FF2 MM2 => then_n ?_⟩))
  refine wp_seq (rg_c FF2 MM2 [(0, b_ 1), (0, b_ 0), (2, t_ (.agg (cn .u8 (tagA K N E (maskN K 1 N X))))), (0, s_ 0 (.cells (cn .u8 (List.replicate 16 0)) 89)), (0, b_ 0)] 11 [] [2] (⟨rfl, ((cn_size _ _).trans hK.len), rfl, ((cn_size _ _).trans hN.len), (callP_of en_atag (atag_any K N ⟨hK.len, hK.lt⟩ ⟨hN.len, hN.lt⟩ E (maskN K 1 N X) hE (maskN_lt _ _ _ _ hX) (by omega) (by rw [maskN_len]; omega)) _), (by kernel_rfl), fun bt => ⟨rfl, ((cn_size _ _).trans (List.length_replicate ..)), ((cn_size _ _).trans (tagA_len _ _ _ _)), (cn_one _ _), rfl, fun _ _ FF3 MM3 => then_n ?_⟩⟩))
  refine wp_seq (rg_c FF3 MM3 [(2, l_ 0 (sB (tagA K N E (maskN K 1 N X)))), (0, t_ (sB (sealN K N E X)))] 11 [] [] (⟨by decide, by decide, by decide, rfl, (str_all (tagA_len _ _ _ _) (tagA_lt _ _ _ _)), (by rw [bs_size, bs_size, maskN_len, tagA_len]; omega), (vS2 (bs_app _ _)), fun _ _ FF4 MM4 => then_n ?_⟩))
  refine wp_ret ?_
  repeat first | refine then_ret ?_ | refine inb_ret ?_
  exact (ret_fr FF4 0 Tryz.results38 rfl ⟨rfl, MM4.below⟩)
set_option maxRecDepth 100000 in
theorem open_short (K N : List Nat) (_hK : Bytes 32 K) (_hN : Bytes 12 N) (E Z : List Nat) (_hE : ∀ i, E.getD i 0 < 256) (_hZ : ∀ i, Z.getD i 0 < 256) (_hl : E.length < 4611686018427387904) (hl2 : Z.length < 4611686018427387904) (h16 : Z.length < 16) (w0 : World) :
    Calls Tryz.prog 19 #[.agg (cn .u8 K), .agg (cn .u8 N), sB E, sB Z] w0 fun e w' => e = .returned (.tuple #[sB [], .bool false]) ∧ Below w0.heap.size w0 w' := by
  refine enter_fr Tryz.func19 rfl Tryz.ntmps19 (by simp) fun ac (FF : Fr 38 ac [(0, .agg (cn .u8 K)), (1, .agg (cn .u8 N)), (2, sB E), (3, sB Z)]) => ?_
  have MM := MemS.start w0
  refine wp_seq (rg_c FF MM [(0, s_ 0 (.cells (cn .u8 K) 23)), (0, s_ 0 (.cells (cn .u8 N) 56)), (0, t_ (sB []))] 9 [9] [0, 1] (⟨(by kernel_rfl), fun bk => ⟨(by kernel_rfl), fun bn => ⟨(by kernel_rfl), fun _ _ FF1 MM1 => then_n ?_⟩⟩⟩))
  refine wp_seq (rg_c FF1 MM1 [(1, t_ (iN Z.length)), (0, u_ 4 (.int .i64 (((Z.length : Nat) : Int) - 16 : Int)))] 11 [] [] (⟨(vI (bs_size _)), by omega, by omega, (vZ (by omega)), fun _ _ FF2 MM2 => then_n ?_⟩))
  refine wp_seq ?_
  refine wp_seq (rg_c FF2 MM2 [(1, w_ 6)] 11 [17] [] (⟨by omega, fun _ _ FF3 MM3 => then_n ?_⟩))
  refine wp_cond_true (FF3.ev 0 rfl) ?_
  refine wp_seq (rg_c FF3 MM3 [(0, t_ (sB []))] 11 [] [] (⟨(by kernel_rfl), fun _ _ FF4 MM4 => then_n ?_⟩))
  refine wp_ret ?_
  repeat first | refine then_ret ?_ | refine inb_ret ?_
  exact (ret_tup2 FF4 1 0 Tryz.results19 rfl rfl ⟨rfl, MM4.below⟩)
set_option maxRecDepth 100000 in
theorem open_yes (K N : List Nat) (hK : Bytes 32 K) (hN : Bytes 12 N) (E Z : List Nat) (hE : ∀ i, E.getD i 0 < 256) (hZ : ∀ i, Z.getD i 0 < 256) (hl : E.length < 4611686018427387904) (hl2 : Z.length < 4611686018427387904) (h16 : 16 ≤ Z.length) (ho : opensN K N E Z) (w0 : World) :
    Calls Tryz.prog 19 #[.agg (cn .u8 K), .agg (cn .u8 N), sB E, sB Z] w0 fun e w' => e = .returned (.tuple #[sB (plainN K N Z), .bool true]) ∧ Below w0.heap.size w0 w' := by
  refine enter_fr Tryz.func19 rfl Tryz.ntmps19 (by simp) fun ac (FF : Fr 38 ac [(0, .agg (cn .u8 K)), (1, .agg (cn .u8 N)), (2, sB E), (3, sB Z)]) => ?_
  have MM := MemS.start w0
  refine wp_seq (rg_c FF MM [(0, s_ 0 (.cells (cn .u8 K) 23)), (0, s_ 0 (.cells (cn .u8 N) 56)), (0, t_ (sB []))] 9 [9] [0, 1] (⟨(by kernel_rfl), fun bk => ⟨(by kernel_rfl), fun bn => ⟨(by kernel_rfl), fun _ _ FF1 MM1 => then_n ?_⟩⟩⟩))
  refine wp_seq (rg_c FF1 MM1 [(1, t_ (iN Z.length))] 11 [] [] (⟨(vI (bs_size _)), by omega, by omega, fun _ _ FF2 MM2 => then_n ?_⟩))
  refine wp_seq ?_
  refine wp_seq (rg_c FF2 MM2 [(1, w_ 3)] 11 [17] [] (⟨by omega, fun _ _ FF3 MM3 => then_n ?_⟩))
  refine wp_cond_false (FF3.ev 0 rfl) ?_
  refine wp_skip ?_
  refine then_n ?_
  have hdl : (Z.drop (Z.length - 16)).length = 16 := by simp; omega
  refine wp_seq (rg_draw2 FF3 MM3 [.inl (sB Z), .inl (iN (Z.length - 16)), .inl (sB (Z.take (Z.length - 16))), .inl (sB Z), .inl (iN (Z.length - 16)), .inl (sB (Z.drop (Z.length - 16))), .inr (fun c => .cells (cn .u8 ((Z.drop (Z.length - 16)) ++ List.replicate c 0)) 5 ((Z.drop (Z.length - 16)).length + c, (Z.drop (Z.length - 16)).length + c + 1), fun b c => .slice (some ⟨b, 0, none⟩) ((Z.drop (Z.length - 16)).length) ((Z.drop (Z.length - 16)).length + c)), .inr (fun c => .cells (cn .u8 ((Z.drop (Z.length - 16)) ++ List.replicate c 0)) 5 ((Z.drop (Z.length - 16)).length + c, (Z.drop (Z.length - 16)).length + c + 1), fun b c => pT b), .inl (.agg (cn .u8 (Z.drop (Z.length - 16)))), .inr (fun _ => .cells (cn .u8 (List.replicate 16 0)) 89, fun b _ => pT b), .inl (sB (Z.take (Z.length - 16)))] [9] [o_, o_, t_ (sB (Z.take (Z.length - 16))), o_, o_, t_ (sB (Z.drop (Z.length - 16))), y_, g_ 6, l_ 0 (.agg (cn .u8 (Z.drop (Z.length - 16)))), o_, o_] [b_ 0] [10, 9, 8, 5, 4, 2, 3, 12, 11] (fun nb cp => [0 ≤ (Z.length - 16), (Z.length - 16) ≤ (bs Z).size, Value.string ((bs Z).extract 0 (Z.length - 16)) = sB (Z.take (Z.length - 16)), (Z.length - 16) ≤ (bs Z).size, 0 ≤ (bs Z).size, Value.string ((bs Z).extract (Z.length - 16) (bs Z).size) = sB (Z.drop (Z.length - 16)), RunB Tryz.prog [(23, sB (Z.drop (Z.length - 16))), (17, .bool false), (10, iN (Z.length - 16)), (9, .bool false), (8, sB []), (5, pT bn), (4, pT bk), (2, sB E), (3, sB Z)] [(bn, .cells (cn .u8 N) 56), (bk, .cells (cn .u8 K) 23)] (opAt Tryz.f19 4 6) (fun c => .cells (cn .u8 ((Z.drop (Z.length - 16)) ++ List.replicate c 0)) 5 ((Z.drop (Z.length - 16)).length + c, (Z.drop (Z.length - 16)).length + c + 1)) (fun b c => .slice (some ⟨b, 0, none⟩) ((Z.drop (Z.length - 16)).length) ((Z.drop (Z.length - 16)).length + c)), 16 ≤ (Z.drop (Z.length - 16)).length, pT (nb 6) = pT (nb 6), Obj.cells (cn .u8 ((Z.drop (Z.length - 16)) ++ List.replicate (cp 6) 0)) 5 ((Z.drop (Z.length - 16)).length + (cp 6), (Z.drop (Z.length - 16)).length + (cp 6) + 1) = .cells (cn .u8 ((Z.drop (Z.length - 16)) ++ List.replicate (cp 6) 0)) 5 ((Z.drop (Z.length - 16)).length + (cp 6), (Z.drop (Z.length - 16)).length + (cp 6) + 1), (nb 7) = (nb 7), PartAt (cn .u8 ((Z.drop (Z.length - 16)) ++ List.replicate (cp 7) 0)) 0 (cn .u8 (Z.drop (Z.length - 16))), (cn .u8 (Z.drop (Z.length - 16))).size = 16]) (fun nb cp Kt => (nb 9) = (nb 9) ∧ (cn .u8 (List.replicate 16 0)).size = 16 ∧ (cn .u8 (Z.drop (Z.length - 16))).size = 16 ∧ (cn .u8 (Z.drop (Z.length - 16))).all (·.oneCell') = true ∧ (0, 0).2 = 0 ∧ Kt [(11, sB (Z.take (Z.length - 16))), (12, pT (nb 9)), (10, iN (Z.length - 16)), (9, .bool false), (8, sB []), (5, pT bn), (4, pT bk), (2, sB E), (3, sB Z)] [((nb 9), .cells (cn .u8 (Z.drop (Z.length - 16))) 89), (bn, .cells (cn .u8 N) 56), (bk, .cells (cn .u8 K) 23)]) (by kernel_rfl) (by kernel_rfl) (by kernel_rfl) (fun _ _ => by kernel_rfl) (fun _ _ _ => by kernel_rfl) ⟨⟨_, rfl⟩, rfl, trivial⟩ (by kernel_rfl) (fun nb cp => ⟨(Nat.zero_le _), (by simp only [bs_size]; omega), (vS2 ((bs_extract _ _ _).trans (congrArg bs (List.drop_zero ..)))), (by simp only [bs_size]; omega), (Nat.zero_le _), (vS2 (bs_from _ _)), (bytes_ok (e := 5) (x := (.tmp 23)) (by kernel_rfl) rfl (drop_lt hZ) Tryz.underlying9 Tryz.underlying59 Tryz.underlying5), (by rw [hdl]; decide), rfl, rfl, rfl, (part_rep _ _), ((cn_size _ _).trans hdl), trivial⟩) (fun nb cp => ⟨rfl, ((cn_size _ _).trans (List.length_replicate ..)), ((cn_size _ _).trans hdl), (cn_one _ _), rfl, fun _ _ FF4 MM4 => then_n ?_⟩))
  generalize nb 9 = bt at *
  refine wp_seq ?_
  refine wp_seq (rg_dc 7 FF4 MM4 [(0, b_ 0), (0, b_ 2), (0, b_ 1), (2, t_ (.agg (cn .u8 (tagA K N E (Z.take (Z.length - 16)))))), (0, f_ (.bool false))] [] 13 [33] [2] (⟨rfl, ((cn_size _ _).trans hdl), rfl, ((cn_size _ _).trans hK.len), rfl, ((cn_size _ _).trans hN.len), (callP_of en_atag (atag_any K N ⟨hK.len, hK.lt⟩ ⟨hN.len, hN.lt⟩ E (Z.take (Z.length - 16)) hE (take_lt hZ) (by omega) (by rw [List.length_take]; omega)) _), (neqA_ok (t := 89) (t' := 89) (e := 5) (m := 16) (k := .u8) (x := (.tmp 27)) (y := (.tmp 32)) (by kernel_rfl) Tryz.underlying89 Tryz.underlying5 (by kernel_rfl) (by kernel_rfl) (by kernel_rfl) rfl rfl hdl (tagA_len _ _ _ _) (decide_eq_false (fun h => h ho.2))), fun _ _ FF5 MM5 => then_n ?_⟩))
  refine wp_cond_false (FF5.ev 0 rfl) ?_
  refine wp_skip ?_
  refine then_n ?_
  refine wp_seq (rg_c FF5 MM5 [(0, b_ 2), (0, b_ 1), (1, t_ (sB (maskN K 1 N (Z.take (Z.length - 16)))))] 13 [] [] (⟨rfl, ((cn_size _ _).trans hK.len), rfl, ((cn_size _ _).trans hN.len), (callP_of en_Mask (Mask_any K N (Z.take (Z.length - 16)) 1 ⟨hK.len, hK.lt⟩ (by decide) ⟨hN.len, hN.lt⟩ (take_lt hZ)) _), fun _ _ FF6 MM6 => then_n ?_⟩))
  refine wp_ret ?_
  repeat first | refine then_ret ?_ | refine inb_ret ?_
  exact (ret_tup2 FF6 1 0 Tryz.results19 rfl rfl ⟨rfl, MM6.below⟩)
set_option maxRecDepth 100000 in
theorem open_bad (K N : List Nat) (hK : Bytes 32 K) (hN : Bytes 12 N) (E Z : List Nat) (hE : ∀ i, E.getD i 0 < 256) (hZ : ∀ i, Z.getD i 0 < 256) (hl : E.length < 4611686018427387904) (hl2 : Z.length < 4611686018427387904) (h16 : 16 ≤ Z.length) (ho : ¬ opensN K N E Z) (w0 : World) :
    Calls Tryz.prog 19 #[.agg (cn .u8 K), .agg (cn .u8 N), sB E, sB Z] w0 fun e w' => e = .returned (.tuple #[sB [], .bool false]) ∧ Below w0.heap.size w0 w' := by
  refine enter_fr Tryz.func19 rfl Tryz.ntmps19 (by simp) fun ac (FF : Fr 38 ac [(0, .agg (cn .u8 K)), (1, .agg (cn .u8 N)), (2, sB E), (3, sB Z)]) => ?_
  have MM := MemS.start w0
  refine wp_seq (rg_c FF MM [(0, s_ 0 (.cells (cn .u8 K) 23)), (0, s_ 0 (.cells (cn .u8 N) 56)), (0, t_ (sB []))] 9 [9] [0, 1] (⟨(by kernel_rfl), fun bk => ⟨(by kernel_rfl), fun bn => ⟨(by kernel_rfl), fun _ _ FF1 MM1 => then_n ?_⟩⟩⟩))
  refine wp_seq (rg_c FF1 MM1 [(1, t_ (iN Z.length))] 11 [] [] (⟨(vI (bs_size _)), by omega, by omega, fun _ _ FF2 MM2 => then_n ?_⟩))
  refine wp_seq ?_
  refine wp_seq (rg_c FF2 MM2 [(1, w_ 3)] 11 [17] [] (⟨by omega, fun _ _ FF3 MM3 => then_n ?_⟩))
  refine wp_cond_false (FF3.ev 0 rfl) ?_
  refine wp_skip ?_
  refine then_n ?_
  have hdl : (Z.drop (Z.length - 16)).length = 16 := by simp; omega
  refine wp_seq (rg_draw2 FF3 MM3 [.inl (sB Z), .inl (iN (Z.length - 16)), .inl (sB (Z.take (Z.length - 16))), .inl (sB Z), .inl (iN (Z.length - 16)), .inl (sB (Z.drop (Z.length - 16))), .inr (fun c => .cells (cn .u8 ((Z.drop (Z.length - 16)) ++ List.replicate c 0)) 5 ((Z.drop (Z.length - 16)).length + c, (Z.drop (Z.length - 16)).length + c + 1), fun b c => .slice (some ⟨b, 0, none⟩) ((Z.drop (Z.length - 16)).length) ((Z.drop (Z.length - 16)).length + c)), .inr (fun c => .cells (cn .u8 ((Z.drop (Z.length - 16)) ++ List.replicate c 0)) 5 ((Z.drop (Z.length - 16)).length + c, (Z.drop (Z.length - 16)).length + c + 1), fun b c => pT b), .inl (.agg (cn .u8 (Z.drop (Z.length - 16)))), .inr (fun _ => .cells (cn .u8 (List.replicate 16 0)) 89, fun b _ => pT b), .inl (sB (Z.take (Z.length - 16)))] [9] [o_, o_, t_ (sB (Z.take (Z.length - 16))), o_, o_, t_ (sB (Z.drop (Z.length - 16))), y_, g_ 6, l_ 0 (.agg (cn .u8 (Z.drop (Z.length - 16)))), o_, o_] [b_ 0] [10, 9, 8, 5, 4, 2, 3, 12, 11] (fun nb cp => [0 ≤ (Z.length - 16), (Z.length - 16) ≤ (bs Z).size, Value.string ((bs Z).extract 0 (Z.length - 16)) = sB (Z.take (Z.length - 16)), (Z.length - 16) ≤ (bs Z).size, 0 ≤ (bs Z).size, Value.string ((bs Z).extract (Z.length - 16) (bs Z).size) = sB (Z.drop (Z.length - 16)), RunB Tryz.prog [(23, sB (Z.drop (Z.length - 16))), (17, .bool false), (10, iN (Z.length - 16)), (9, .bool false), (8, sB []), (5, pT bn), (4, pT bk), (2, sB E), (3, sB Z)] [(bn, .cells (cn .u8 N) 56), (bk, .cells (cn .u8 K) 23)] (opAt Tryz.f19 4 6) (fun c => .cells (cn .u8 ((Z.drop (Z.length - 16)) ++ List.replicate c 0)) 5 ((Z.drop (Z.length - 16)).length + c, (Z.drop (Z.length - 16)).length + c + 1)) (fun b c => .slice (some ⟨b, 0, none⟩) ((Z.drop (Z.length - 16)).length) ((Z.drop (Z.length - 16)).length + c)), 16 ≤ (Z.drop (Z.length - 16)).length, pT (nb 6) = pT (nb 6), Obj.cells (cn .u8 ((Z.drop (Z.length - 16)) ++ List.replicate (cp 6) 0)) 5 ((Z.drop (Z.length - 16)).length + (cp 6), (Z.drop (Z.length - 16)).length + (cp 6) + 1) = .cells (cn .u8 ((Z.drop (Z.length - 16)) ++ List.replicate (cp 6) 0)) 5 ((Z.drop (Z.length - 16)).length + (cp 6), (Z.drop (Z.length - 16)).length + (cp 6) + 1), (nb 7) = (nb 7), PartAt (cn .u8 ((Z.drop (Z.length - 16)) ++ List.replicate (cp 7) 0)) 0 (cn .u8 (Z.drop (Z.length - 16))), (cn .u8 (Z.drop (Z.length - 16))).size = 16]) (fun nb cp Kt => (nb 9) = (nb 9) ∧ (cn .u8 (List.replicate 16 0)).size = 16 ∧ (cn .u8 (Z.drop (Z.length - 16))).size = 16 ∧ (cn .u8 (Z.drop (Z.length - 16))).all (·.oneCell') = true ∧ (0, 0).2 = 0 ∧ Kt [(11, sB (Z.take (Z.length - 16))), (12, pT (nb 9)), (10, iN (Z.length - 16)), (9, .bool false), (8, sB []), (5, pT bn), (4, pT bk), (2, sB E), (3, sB Z)] [((nb 9), .cells (cn .u8 (Z.drop (Z.length - 16))) 89), (bn, .cells (cn .u8 N) 56), (bk, .cells (cn .u8 K) 23)]) (by kernel_rfl) (by kernel_rfl) (by kernel_rfl) (fun _ _ => by kernel_rfl) (fun _ _ _ => by kernel_rfl) ⟨⟨_, rfl⟩, rfl, trivial⟩ (by kernel_rfl) (fun nb cp => ⟨(Nat.zero_le _), (by simp only [bs_size]; omega), (vS2 ((bs_extract _ _ _).trans (congrArg bs (List.drop_zero ..)))), (by simp only [bs_size]; omega), (Nat.zero_le _), (vS2 (bs_from _ _)), (bytes_ok (e := 5) (x := (.tmp 23)) (by kernel_rfl) rfl (drop_lt hZ) Tryz.underlying9 Tryz.underlying59 Tryz.underlying5), (by rw [hdl]; decide), rfl, rfl, rfl, (part_rep _ _), ((cn_size _ _).trans hdl), trivial⟩) (fun nb cp => ⟨rfl, ((cn_size _ _).trans (List.length_replicate ..)), ((cn_size _ _).trans hdl), (cn_one _ _), rfl, fun _ _ FF4 MM4 => then_n ?_⟩))
  generalize nb 9 = bt at *
  refine wp_seq ?_
  refine wp_seq (rg_dc 7 FF4 MM4 [(0, b_ 0), (0, b_ 2), (0, b_ 1), (2, t_ (.agg (cn .u8 (tagA K N E (Z.take (Z.length - 16)))))), (0, f_ (.bool true))] [] 13 [33] [2] (⟨rfl, ((cn_size _ _).trans hdl), rfl, ((cn_size _ _).trans hK.len), rfl, ((cn_size _ _).trans hN.len), (callP_of en_atag (atag_any K N ⟨hK.len, hK.lt⟩ ⟨hN.len, hN.lt⟩ E (Z.take (Z.length - 16)) hE (take_lt hZ) (by omega) (by rw [List.length_take]; omega)) _), (neqA_ok (t := 89) (t' := 89) (e := 5) (m := 16) (k := .u8) (x := (.tmp 27)) (y := (.tmp 32)) (by kernel_rfl) Tryz.underlying89 Tryz.underlying5 (by kernel_rfl) (by kernel_rfl) (by kernel_rfl) rfl rfl hdl (tagA_len _ _ _ _) (decide_eq_true (fun h => ho ⟨h16, h⟩))), fun _ _ FF5 MM5 => then_n ?_⟩))
  refine wp_cond_true (FF5.ev 0 rfl) ?_
  refine wp_seq (rg_c FF5 MM5 [(0, t_ (sB []))] 13 [] [] (⟨(by kernel_rfl), fun _ _ FF6 MM6 => then_n ?_⟩))
  refine wp_ret ?_
  repeat first | refine then_ret ?_ | refine inb_ret ?_
  exact (ret_tup2 FF6 1 0 Tryz.results19 rfl rfl ⟨rfl, MM6.below⟩)
theorem open_no (K N : List Nat) (hK : Bytes 32 K) (hN : Bytes 12 N) (E Z : List Nat) (hE : ∀ i, E.getD i 0 < 256) (hZ : ∀ i, Z.getD i 0 < 256) (hl : E.length < 4611686018427387904) (hl2 : Z.length < 4611686018427387904) (ho : ¬ opensN K N E Z) (w0 : World) :
    Calls Tryz.prog 19 #[.agg (cn .u8 K), .agg (cn .u8 N), sB E, sB Z] w0 fun e w' => e = .returned (.tuple #[sB [], .bool false]) ∧ Below w0.heap.size w0 w' := by
  rcases Nat.lt_or_ge Z.length 16 with h | h
  · exact open_short K N hK hN E Z hE hZ hl hl2 h w0
  · exact open_bad K N hK hN E Z hE hZ hl hl2 h ho w0
end Go.Proofs.YtdjpacgjhcidpabGreatDoor
namespace Go.Proofs.YtdjpacgjhcidpabGreatDoor
open Go.RowKit
theorem en_pnew : Enters Tryz.prog 10 := fun args w => by simp [go_sem]
theorem en_pshared : Enters Tryz.prog 54 := fun args w => by simp [go_sem]
theorem en_pshare : Enters Tryz.prog 29 := fun args w => by simp [go_sem]
theorem en_pshareid : Enters Tryz.prog 30 := fun args w => by simp [go_sem]
theorem en_pKey : Enters Tryz.prog 55 := fun args w => by simp [go_sem]
theorem en_pID : Enters Tryz.prog 32 := fun args w => by simp [go_sem]
theorem en_pseal : Enters Tryz.prog 33 := fun args w => by simp [go_sem]
theorem en_popen : Enters Tryz.prog 36 := fun args w => by simp [go_sem]
theorem en_pforged : Enters Tryz.prog 15 := fun args w => by simp [go_sem]
theorem laidP : laidOutB Tryz.prog = true := Tryz.laidOut
theorem key_law : MKey Tryz.prog 23 (fun X => .agg (cn .u8 X)) (BytesK 32) := bytes_key (e := 5) (d := 204) laidP (by decide +kernel) (by decide +kernel) (by decide +kernel) (by decide +kernel) Tryz.underlying23 Tryz.underlying5 (by kernel_rfl) (by kernel_rfl)
theorem id_law : MKey Tryz.prog 32 (fun X => .agg (cn .u8 X)) (BytesK 16) := bytes_key (e := 5) (d := 204) laidP (by decide +kernel) (by decide +kernel) (by decide +kernel) (by decide +kernel) Tryz.underlying32 Tryz.underlying5 (by kernel_rfl) (by kernel_rfl)
abbrev boxV (x : BoxK) : Value := .agg (cn .u8 x.1 ++ cn .u8 x.2.1 ++ #[sB x.2.2])
abbrev noteV (X : List Nat) : Value := sB X
def OkQ (pn : Notes) : Prop := (∀ p ∈ pn, OkB p.1 ∧ (∀ i, p.2.getD i 0 < 256) ∧ p.2.length ≤ 1000000) ∧ Uniq pn
abbrev NM (l : Notes) : Obj := mapO boxV noteV l
theorem box_size {x : BoxK} (h : OkB x) : (cn .u8 x.1 ++ cn .u8 x.2.1 ++ #[sB x.2.2]).size = 45 := by
  simp only [Array.size_append, cn_size, h.1.1, h.2.1.1]
  rfl
theorem box_key {P : Program} {d k e a0 a1 a2 : Nat} {fs : Array Field} {f0 f1 f2 : Field} (hl : laidOutB P = true) (hs : P.types.size + 2 ≤ 10000) (hd : P.types.size = d + 2) (hr : k < P.types.size) (hk : P.keyType k = true) (ht : P.underlying k = some (.struct fs)) (hf : fs.toList = [f0, f1, f2]) (hn : P.cellsOf k = 45)
    (hb : fs.all (·.name != "_") = true) (o0 : f0.offset = 0) (o1 : f1.offset = 32) (o2 : f2.offset = 44) (t0 : f0.type = a0) (t1 : f1.type = a1) (t2 : f2.type = a2) (h0 : P.underlying a0 = some (.array 32 e)) (h1 : P.underlying a1 = some (.array 12 e)) (h2 : P.underlying a2 = some .string)
    (he : P.underlying e = some (.int .u8)) (c0 : P.cellsOf a0 = 32) (c1 : P.cellsOf a1 = 12) (c2 : P.cellsOf a2 = 1) (ce : P.cellsOf e = 1) : MKey P k boxV OkB where
  law := deep_law_gate hl hs hr hk (by rw [ht])
  lit x hx := by
    have hsz := box_size hx
    obtain ⟨K, N, B⟩ := x
    obtain ⟨hK, hN, hB, hBl⟩ := hx
    have hBl : B.length ≤ 1000000 := hBl
    have ec : (cn .u8 K ++ cn .u8 N ++ #[sB B]).toList = (cn .u8 K).toList ++ ((cn .u8 N).toList ++ [sB B]) := by simp
    have lK : (cn .u8 K).toList.length = 32 := by rw [Array.length_toList, cn_size]; exact hK.1
    have lN : (cn .u8 N).toList.length = 12 := by rw [Array.length_toList, cn_size]; exact hN.1
    obtain ⟨q0, e0⟩ := lits_bytes (d := d) h0 he ce c0 hK
    obtain ⟨q1, e1⟩ := lits_bytes (d := d) h1 he ce c1 hN
    obtain ⟨q2, e2⟩ := lits_str (d := d + 1) h2 (X := B) (by simp only [maxLen]; omega)
    have p0 : (((cn .u8 K).toList ++ ((cn .u8 N).toList ++ [sB B])).drop 0).take 32 = (cn .u8 K).toList := by rw [List.drop_zero, List.take_append_of_le_length (by omega), List.take_of_length_le (by omega)]
    have p1 : (((cn .u8 K).toList ++ ((cn .u8 N).toList ++ [sB B])).drop 32).take 12 = (cn .u8 N).toList := by rw [List.drop_append_of_le_length (by omega), List.drop_of_length_le (by omega), List.nil_append, List.take_append_of_le_length (by omega), List.take_of_length_le (by omega)]
    have p2 : (((cn .u8 K).toList ++ ((cn .u8 N).toList ++ [sB B])).drop 44).take 1 = [sB B] := by
      rw [show 44 = (cn .u8 K).toList.length + 12 by omega, ← List.drop_drop, List.drop_left, show 12 = (cn .u8 N).toList.length by omega, List.drop_left]
      rfl
    have hL : P.keyLits (d + 3) k (cn .u8 K ++ cn .u8 N ++ #[sB B]).toList = some [q0, q1, q2].flatten := by
      unfold Program.keyLits
      rw [ht]
      dsimp only
      rw [if_pos ⟨by rw [Array.length_toList, hsz, hn], by rw [← Array.all_toList] at hb ⊢; exact hb⟩, hf, ec]
      simp only [List.mapM_cons, List.mapM_nil, o0, o1, o2, t0, t1, t2, c0, c1, c2, p0, p1, p2, e0, e1, e2, Option.bind_eq_bind, Option.bind_some, Option.pure_def, Option.map_some]
    exact ⟨_, by simp only [keyOf, ht, hk, Value.formed, Value.cells, hsz, hn, hd, hL, BEq.rfl, Bool.and_self, if_true, Option.map_some]; rfl⟩
  inj x y hx hy h := by
    obtain ⟨K, N, B⟩ := x
    obtain ⟨K', N', B'⟩ := y
    obtain ⟨hK, hN, hB, hBl⟩ := hx
    obtain ⟨hK', hN', hB', hBl'⟩ := hy
    have e := Value.agg.inj h
    simp only at hK hN hB hK' hN' hB' e
    have l1 : K.length = 32 := hK.1
    have l2 : N.length = 12 := hN.1
    have cell : ∀ (K N B : List Nat), K.length = 32 → N.length = 12 → (∀ i, i < 32 → (cn .u8 K ++ cn .u8 N ++ #[sB B])[i]? = some (iB (K.getD i 0))) ∧ (∀ i, i < 12 → (cn .u8 K ++ cn .u8 N ++ #[sB B])[32 + i]? = some (iB (N.getD i 0))) ∧ (cn .u8 K ++ cn .u8 N ++ #[sB B])[44]? = some (sB B) := fun K N B hK hN => by
      have s1 : (cn .u8 K).size = 32 := by rw [cn_size, hK]
      have s2 : (cn .u8 K ++ cn .u8 N).size = 44 := by rw [Array.size_append, cn_size, cn_size, hK, hN]
      refine ⟨fun i hi => ?_, fun i hi => ?_, ?_⟩
      · rw [Array.getElem?_append_left (by omega), Array.getElem?_append_left (by omega), cn_get _ _ _ (by omega)]
      · rw [Array.getElem?_append_left (by omega), Array.getElem?_append_right (by omega), s1, Nat.add_sub_cancel_left, cn_get _ _ _ (by omega)]
      · rw [Array.getElem?_append_right (by omega), s2]
        rfl
    obtain ⟨a1, a2, a3⟩ := cell K N B hK.1 hN.1
    obtain ⟨b1, b2, b3⟩ := cell K' N' B' hK'.1 hN'.1
    rw [e] at a1 a2 a3
    have num : ∀ {x y : Nat}, some (Value.int .u8 (x : Int)) = some (.int .u8 (y : Int)) → x = y := fun h => Int.ofNat.inj (Value.int.inj (Option.some.inj h)).2
    have eK : K = K' := ext_getD (hK.1.trans hK'.1.symm) fun i hi => num ((a1 i (by omega)).symm.trans (b1 i (by omega)))
    have eN : N = N' := ext_getD (hN.1.trans hN'.1.symm) fun i hi => num ((a2 i (by omega)).symm.trans (b2 i (by omega)))
    have eB : B = B' := bs_inj hB hB' (Value.string.inj (Option.some.inj (a3.symm.trans b3)))
    rw [eK, eN, eB]
theorem box_law : MKey Tryz.prog 111 boxV OkB := box_key (e := 5) (d := 203) laidP (by decide +kernel) (by decide +kernel) (by decide +kernel) (by decide +kernel) Tryz.underlying111 rfl (by kernel_rfl) (by decide +kernel) rfl rfl rfl rfl rfl rfl Tryz.underlying23 Tryz.underlying56 Tryz.underlying9 Tryz.underlying5 (by kernel_rfl) (by kernel_rfl) (by kernel_rfl) (by kernel_rfl)
/-- What is shared, as the program keeps it; what is noted. -/
abbrev KM (l : Pairs) : Obj := mapO (fun X => .agg (cn .u8 X)) (fun X => .agg (cn .u8 X)) l
abbrev BB (i : Bool) (t : Value) (m1 m2 m3 f : Nat) : Obj := .cells #[.bool i, t, .map (some m1), .map (some m2), .map (some m3), iN f] 73
set_option maxRecDepth 100000 in
theorem pshared_any {b m1 m2 m3 : Nat} {i : Bool} {t : Value} {f : Nat} {ks : Pairs} {K : List Nat} (hk : OkP 32 ks) (hK : BytesK 32 K) (w0 : World) (H : Has w0 [(b, oC #[.bool i, t, .map (some m1), .map (some m2), .map (some m3), iN f] 73), (m1, KM ks)]) (hD : Distinct [(b, oC #[.bool i, t, .map (some m1), .map (some m2), .map (some m3), iN f] 73), (m1, KM ks)]) :
    Calls Tryz.prog 54 #[pT b, .agg (cn .u8 K)] w0 fun e w' => e = .returned (.bool (mget K ks).isSome) ∧ TurnB [] w0 w' := by
  refine enter_fr Tryz.func54 rfl Tryz.ntmps54 (by simp) fun ac (FF : Fr 19 ac [(0, pT b), (1, .agg (cn .u8 K))]) => ?_
  have MM : MemS (fun k => k < w0.heap.size ∧ ∀ x ∈ [(b, oC #[.bool i, t, .map (some m1), .map (some m2), .map (some m3), iN f] 73), (m1, KM ks)], x.1 ≠ k) w0 w0 [(b, oC #[.bool i, t, .map (some m1), .map (some m2), .map (some m3), iN f] 73), (m1, KM ks)] [] := MemS.startN H hD
  refine wp_seq (rg_c FF MM [(0, s_ 0 (.cells (cn .u8 K) 23))] 5 [] [1] (⟨(by kernel_rfl), fun bk => fun _ _ FF1 MM1 => then_n ?_⟩))
  refine wp_seq ?_
  refine wp_seq (rg_c FF1 MM1 [(1, f_ (.bool false))] 5 [8] [] (⟨(ptrSome_ok (t := 39) (t' := 39) (x := (.tmp 7)) (y := (.const (.pointer none))) (by kernel_rfl) rfl rfl Tryz.underlying39), fun _ _ FF2 MM2 => then_n ?_⟩))
  refine wp_cond_false (FF2.ev 0 rfl) ?_
  refine wp_skip ?_
  refine then_n ?_
  cases hg : mget K ks with
  | none =>
    refine wp_seq (rg_lay FF2 MM2 [lval (pT b), lval (pT b), lval (.pointer (some ⟨b, 2, none⟩)), lval (.map (some m1)), lval (.agg (cn .u8 K)), lval (.tuple #[.agg (cn .u8 (List.replicate 32 0)), .bool false]), lval (.tuple #[.agg (cn .u8 (List.replicate 32 0)), .bool false]), lval (.agg (cn .u8 (List.replicate 32 0))), lval (.bool false), lnew (.cells (cn .u8 (List.replicate 32 0)) 23) (fun b => pT b) (some (10, .cells (cn .u8 (List.replicate 32 0)) 23)), lsto 9, lval (.bool false)] [o_, o_, o_, l_ 1 (.map (some m1)), b_ 0, f_ (.tuple #[.agg (cn .u8 (List.replicate 32 0)), .bool false]), o_, o_, o_, o_, o_, o_] [4, 0, 6] [b = b, (#[.bool i, t, .map (some m1), .map (some m2), .map (some m3), iN f] : Array Value)[2]? = some (.map (some m1)), bk = bk, (cn .u8 K).size = 32, RunV Tryz.prog [(13, .map (some m1)), (14, .agg (cn .u8 K)), (8, .bool false), (4, .bool false), (3, pT bk), (0, pT b)] [(bk, .cells (cn .u8 K) 23), (b, oC #[.bool i, t, .map (some m1), .map (some m2), .map (some m3), iN f] 73), (m1, KM ks)] (opAt Tryz.f54 3 5) (.tuple #[.agg (cn .u8 (List.replicate 32 0)), .bool false])] (fun nb => [(6, .bool false), (4, .bool false), (0, pT b)]) (fun nb => [((nb 9), .cells (cn .u8 (List.replicate 32 0)) 23), (bk, .cells (cn .u8 K) 23), (b, oC #[.bool i, t, .map (some m1), .map (some m2), .map (some m3), iN f] 73), (m1, KM ks)]) (by kernel_rfl) (by kernel_rfl) (by kernel_rfl) (by kernel_rfl) (fun _ => by kernel_rfl) (fun _ => by kernel_rfl) ⟨(fun a w => ⟨rfl, by simp [execOp, go_sem, cn]⟩), ⟨⟨5, 16, 23, (cn .u8 (List.replicate 32 0)), (cn .u8 (List.replicate 32 0)), 7, rfl, rfl, rfl, by kernel_rfl, rfl, rfl, by kernel_rfl, rfl, rfl, ((cn_size _ _).trans (List.length_replicate ..)).trans (((cn_size _ _).trans (List.length_replicate ..))).symm, (cn_one _ _), (show _ = some 32 by kernel_rfl).trans (congrArg some (((cn_size _ _).trans (List.length_replicate ..))).symm)⟩, trivial⟩⟩ ⟨rfl, rfl, rfl, ((cn_size _ _).trans hK.1), (mapNo_ok (t := 69) (m := (.tmp 13)) (y := (.tmp 14)) (b := m1) (i := 2) (kf := (fun X => .agg (cn .u8 X))) (vf := (fun X => .agg (cn .u8 X))) (l := ks) (x := K) (c := true) (z := .agg (cn .u8 (List.replicate 32 0))) (by kernel_rfl) rfl rfl Tryz.underlying69 key_law (fun p hp => (hk.1 p hp).1) hk.2 hK rfl (by kernel_rfl) hg), trivial⟩ (fun nb ac3 wd3 FF3 MM3 => then_n ?_))
    generalize nb 9 = bo at *
    refine wp_seq (rg_c FF3 MM3 [] 5 [] [] (fun _ _ FF4 MM4 => then_n ?_))
    refine wp_ret ?_
    repeat first | refine then_ret ?_ | refine inb_ret ?_
    exact (ret_fr FF4 0 Tryz.results54 rfl ⟨rfl, MM4.turnB [] H (fun _ h => (nomatch h)) (List.forall_mem_cons.2 ⟨.inl (List.mem_of_getElem? (i := 2) rfl), (List.forall_mem_cons.2 ⟨.inl (List.mem_of_getElem? (i := 3) rfl), (fun _ h => (nomatch h))⟩)⟩)⟩)
  | some own =>
    refine wp_seq (rg_lay FF2 MM2 [lval (pT b), lval (pT b), lval (.pointer (some ⟨b, 2, none⟩)), lval (.map (some m1)), lval (.agg (cn .u8 K)), lval (.tuple #[.agg (cn .u8 own), .bool true]), lval (.tuple #[.agg (cn .u8 own), .bool true]), lval (.agg (cn .u8 own)), lval (.bool true), lnew (.cells (cn .u8 (List.replicate 32 0)) 23) (fun b => pT b) (some (10, .cells (cn .u8 own) 23)), lsto 9, lval (.bool true)] [o_, o_, o_, l_ 1 (.map (some m1)), b_ 0, f_ (.tuple #[.agg (cn .u8 own), .bool true]), o_, o_, o_, o_, o_, o_] [4, 0, 6] [b = b, (#[.bool i, t, .map (some m1), .map (some m2), .map (some m3), iN f] : Array Value)[2]? = some (.map (some m1)), bk = bk, (cn .u8 K).size = 32, RunV Tryz.prog [(13, .map (some m1)), (14, .agg (cn .u8 K)), (8, .bool false), (4, .bool false), (3, pT bk), (0, pT b)] [(bk, .cells (cn .u8 K) 23), (b, oC #[.bool i, t, .map (some m1), .map (some m2), .map (some m3), iN f] 73), (m1, KM ks)] (opAt Tryz.f54 3 5) (.tuple #[.agg (cn .u8 own), .bool true])] (fun nb => [(6, .bool true), (4, .bool false), (0, pT b)]) (fun nb => [((nb 9), .cells (cn .u8 own) 23), (bk, .cells (cn .u8 K) 23), (b, oC #[.bool i, t, .map (some m1), .map (some m2), .map (some m3), iN f] 73), (m1, KM ks)]) (by kernel_rfl) (by kernel_rfl) (by kernel_rfl) (by kernel_rfl) (fun _ => by kernel_rfl) (fun _ => by kernel_rfl) ⟨(fun a w => ⟨rfl, by simp [execOp, go_sem, cn]⟩), ⟨⟨5, 16, 23, (cn .u8 (List.replicate 32 0)), (cn .u8 own), 7, rfl, rfl, rfl, by kernel_rfl, rfl, rfl, by kernel_rfl, rfl, rfl, ((cn_size _ _).trans (List.length_replicate ..)).trans (((cn_size _ _).trans (hk.1 _ (mget_mem hg)).2.1)).symm, (cn_one _ _), (show _ = some 32 by kernel_rfl).trans (congrArg some (((cn_size _ _).trans (hk.1 _ (mget_mem hg)).2.1)).symm)⟩, trivial⟩⟩ ⟨rfl, rfl, rfl, ((cn_size _ _).trans hK.1), (mapYes_ok (t := 69) (m := (.tmp 13)) (y := (.tmp 14)) (b := m1) (i := 2) (kf := (fun X => .agg (cn .u8 X))) (vf := (fun X => .agg (cn .u8 X))) (l := ks) (x := K) (c := true) (v := own) (by kernel_rfl) rfl rfl Tryz.underlying69 key_law (fun p hp => (hk.1 p hp).1) hk.2 hK rfl hg), trivial⟩ (fun nb ac5 wd5 FF5 MM5 => then_n ?_))
    generalize nb 9 = bo at *
    refine wp_seq (rg_c FF5 MM5 [] 5 [] [] (fun _ _ FF6 MM6 => then_n ?_))
    refine wp_ret ?_
    repeat first | refine then_ret ?_ | refine inb_ret ?_
    exact (ret_fr FF6 0 Tryz.results54 rfl ⟨rfl, MM6.turnB [] H (fun _ h => (nomatch h)) (List.forall_mem_cons.2 ⟨.inl (List.mem_of_getElem? (i := 2) rfl), (List.forall_mem_cons.2 ⟨.inl (List.mem_of_getElem? (i := 3) rfl), (fun _ h => (nomatch h))⟩)⟩)⟩)
set_option maxRecDepth 100000 in
theorem pshared_nil (K : List Nat) (_hK : BytesK 32 K) (w0 : World) :
    Calls Tryz.prog 54 #[.pointer none, .agg (cn .u8 K)] w0 fun e w' => e = .returned (.bool false) ∧ Below w0.heap.size w0 w' := by
  refine enter_fr Tryz.func54 rfl Tryz.ntmps54 (by simp) fun ac (FF : Fr 19 ac [(0, .pointer none), (1, .agg (cn .u8 K))]) => ?_
  have MM := MemS.start w0
  refine wp_seq (rg_c FF MM [(0, s_ 0 (.cells (cn .u8 K) 23))] 5 [] [1] (⟨(by kernel_rfl), fun bk => fun _ _ FF1 MM1 => then_n ?_⟩))
  refine wp_seq ?_
  refine wp_seq (rg_c FF1 MM1 [(1, f_ (.bool true))] 5 [8] [] (⟨(ptrNil_ok (t := 39) (t' := 39) (x := (.tmp 7)) (y := (.const (.pointer none))) (by kernel_rfl) rfl rfl Tryz.underlying39), fun _ _ FF2 MM2 => then_n ?_⟩))
  refine wp_cond_true (FF2.ev 0 rfl) ?_
  refine wp_seq (rg_c FF2 MM2 [] 5 [] [] (fun _ _ FF3 MM3 => then_n ?_))
  refine wp_ret ?_
  repeat first | refine then_ret ?_ | refine inb_ret ?_
  exact (ret_fr FF3 0 Tryz.results54 rfl ⟨rfl, MM3.below⟩)
/-- The names that the program keeps: in the real game none. -/
def idsP (i : Bool) (l : Pairs) : Pairs := match i with | true => l | false => []
theorem okP_ids {n : Nat} {i : Bool} {l : Pairs} (h : OkP n l) : OkP n (idsP i l) := by
  cases i with
  | true => exact h
  | false => exact okP_nil n
set_option maxRecDepth 100000 in
theorem pKey_any {b m1 m2 m3 : Nat} {i : Bool} {t : Value} {f : Nat} {ks : Pairs} {K : List Nat} (hk : OkP 32 ks) (hK : BytesK 32 K) (w0 : World) (H : Has w0 [(b, oC #[.bool i, t, .map (some m1), .map (some m2), .map (some m3), iN f] 73), (m1, KM ks)]) (hD : Distinct [(b, oC #[.bool i, t, .map (some m1), .map (some m2), .map (some m3), iN f] 73), (m1, KM ks)]) :
    Calls Tryz.prog 55 #[pT b, .agg (cn .u8 K)] w0 fun e w' => e = .returned (.agg (cn .u8 (ownN K ks))) ∧ TurnB [] w0 w' := by
  refine enter_fr Tryz.func55 rfl Tryz.ntmps55 (by simp) fun ac (FF : Fr 16 ac [(0, pT b), (1, .agg (cn .u8 K))]) => ?_
  have MM : MemS (fun k => k < w0.heap.size ∧ ∀ x ∈ [(b, oC #[.bool i, t, .map (some m1), .map (some m2), .map (some m3), iN f] 73), (m1, KM ks)], x.1 ≠ k) w0 w0 [(b, oC #[.bool i, t, .map (some m1), .map (some m2), .map (some m3), iN f] 73), (m1, KM ks)] [] := MemS.startN H hD
  refine wp_seq (rg_c FF MM [(0, s_ 0 (.cells (cn .u8 K) 23)), (0, s_ 0 (.cells (cn .u8 (List.replicate 32 0)) 23))] 5 [] [1] (⟨(by kernel_rfl), fun bk => ⟨(by kernel_rfl), fun br => fun _ _ FF1 MM1 => then_n ?_⟩⟩))
  refine wp_seq ?_
  cases hg : mget K ks with
  | none =>
    refine wp_seq (rg_c FF1 MM1 [(1, b_ 1), (0, u_ 1 (.bool false))] 5 [8] [] (⟨rfl, ((cn_size _ _).trans hK.1), (callP_B [2, 3] en_pshared rfl (fun w Hw => by have h0 := pshared_any hk hK w Hw (distinct_names rfl (distinct_at MM1.distinct (is := [2, 3]) rfl rfl)); rw [hg] at h0; exact h0)), fun _ _ FF2 MM2 => then_n ?_⟩))
    refine wp_cond_true (FF2.ev 0 rfl) ?_
    refine wp_seq (rg_c FF2 MM2 [(0, b_ 1), (0, b_ 0)] 5 [] [] (⟨rfl, ((cn_size _ _).trans hK.1), rfl, ((cn_size _ _).trans (List.length_replicate ..)), ((cn_size _ _).trans hK.1), (cn_one _ _), rfl, fun _ _ FF3 MM3 => then_n ?_⟩))
    refine wp_ret ?_
    repeat first | refine then_ret ?_ | refine inb_ret ?_
    exact (retc FF3 MM3 (k := 32) (i := 0) (j := 0) Tryz.results55 rfl rfl Tryz.underlying23 rfl (by kernel_rfl) ((cn_size _ _).trans hK.1) ⟨by rw [ownN, hg]; rfl, MM3.turnB [] H (fun _ h => (nomatch h)) (List.forall_mem_cons.2 ⟨.inl (List.mem_of_getElem? (i := 2) rfl), (List.forall_mem_cons.2 ⟨.inl (List.mem_of_getElem? (i := 3) rfl), (fun _ h => (nomatch h))⟩)⟩)⟩)
  | some own =>
    refine wp_seq (rg_c FF1 MM1 [(1, b_ 1), (0, u_ 1 (.bool true))] 5 [8] [] (⟨rfl, ((cn_size _ _).trans hK.1), (callP_B [2, 3] en_pshared rfl (fun w Hw => by have h0 := pshared_any hk hK w Hw (distinct_names rfl (distinct_at MM1.distinct (is := [2, 3]) rfl rfl)); rw [hg] at h0; exact h0)), fun _ _ FF4 MM4 => then_n ?_⟩))
    refine wp_cond_false (FF4.ev 0 rfl) ?_
    refine wp_skip ?_
    refine then_n ?_
    refine wp_seq (rg_dc 6 FF4 MM4 [(3, l_ 2 (.map (some m1))), (0, b_ 1), (0, f_ (.agg (cn .u8 own)))] [(0, b_ 0)] 5 [] [] (⟨rfl, rfl, rfl, ((cn_size _ _).trans hK.1), (mapYes_ok (t := 69) (m := (.tmp 13)) (y := (.tmp 14)) (b := m1) (i := 3) (kf := (fun X => .agg (cn .u8 X))) (vf := (fun X => .agg (cn .u8 X))) (l := ks) (x := K) (c := false) (v := own) (by kernel_rfl) rfl rfl Tryz.underlying69 key_law (fun p hp => (hk.1 p hp).1) hk.2 hK rfl hg), rfl, ((cn_size _ _).trans (List.length_replicate ..)), ((cn_size _ _).trans (hk.1 _ (mget_mem hg)).2.1), (cn_one _ _), rfl, fun _ _ FF5 MM5 => then_n ?_⟩))
    refine wp_ret ?_
    repeat first | refine then_ret ?_ | refine inb_ret ?_
    exact (retc FF5 MM5 (k := 32) (i := 0) (j := 0) Tryz.results55 rfl rfl Tryz.underlying23 rfl (by kernel_rfl) ((cn_size _ _).trans (hk.1 _ (mget_mem hg)).2.1) ⟨by rw [ownN, hg]; rfl, MM5.turnB [] H (fun _ h => (nomatch h)) (List.forall_mem_cons.2 ⟨.inl (List.mem_of_getElem? (i := 2) rfl), (List.forall_mem_cons.2 ⟨.inl (List.mem_of_getElem? (i := 3) rfl), (fun _ h => (nomatch h))⟩)⟩)⟩)
set_option maxRecDepth 100000 in
theorem pID_any {b m1 m2 m3 : Nat} {i : Bool} {t : Value} {f : Nat} {ks : Pairs} {K : List Nat} (hk : OkP 16 ks) (hK : BytesK 16 K) (w0 : World) (H : Has w0 [(b, oC #[.bool i, t, .map (some m1), .map (some m2), .map (some m3), iN f] 73), (m2, KM ks)]) (hD : Distinct [(b, oC #[.bool i, t, .map (some m1), .map (some m2), .map (some m3), iN f] 73), (m2, KM ks)]) :
    Calls Tryz.prog 32 #[pT b, .agg (cn .u8 K)] w0 fun e w' => e = .returned (.agg (cn .u8 (ownN K ks))) ∧ TurnB [] w0 w' := by
  refine enter_fr Tryz.func32 rfl Tryz.ntmps32 (by simp) fun ac (FF : Fr 22 ac [(0, pT b), (1, .agg (cn .u8 K))]) => ?_
  have MM : MemS (fun k => k < w0.heap.size ∧ ∀ x ∈ [(b, oC #[.bool i, t, .map (some m1), .map (some m2), .map (some m3), iN f] 73), (m2, KM ks)], x.1 ≠ k) w0 w0 [(b, oC #[.bool i, t, .map (some m1), .map (some m2), .map (some m3), iN f] 73), (m2, KM ks)] [] := MemS.startN H hD
  refine wp_seq (rg_c FF MM [(0, s_ 0 (.cells (cn .u8 K) 32)), (0, s_ 0 (.cells (cn .u8 (List.replicate 16 0)) 32))] 5 [] [1] (⟨(by kernel_rfl), fun bk => ⟨(by kernel_rfl), fun br => fun _ _ FF1 MM1 => then_n ?_⟩⟩))
  refine wp_seq ?_
  refine wp_seq (rg_c FF1 MM1 [(1, f_ (.bool false))] 5 [8] [] (⟨(ptrSome_ok (t := 39) (t' := 39) (x := (.tmp 7)) (y := (.const (.pointer none))) (by kernel_rfl) rfl rfl Tryz.underlying39), fun _ _ FF2 MM2 => then_n ?_⟩))
  refine wp_cond_false (FF2.ev 0 rfl) ?_
  refine wp_skip ?_
  refine then_n ?_
  refine wp_seq ?_
  cases hg : mget K ks with
  | none =>
    refine wp_seq (rg_lay FF2 MM2 [lval (pT b), lval (pT b), lval (.pointer (some ⟨b, 3, none⟩)), lval (.map (some m2)), lval (.agg (cn .u8 K)), lval (.tuple #[.agg (cn .u8 (List.replicate 16 0)), .bool false]), lval (.tuple #[.agg (cn .u8 (List.replicate 16 0)), .bool false]), lval (.agg (cn .u8 (List.replicate 16 0))), lval (.bool false), lnew (.cells (cn .u8 (List.replicate 16 0)) 32) (fun b => pT b) (some (10, .cells (cn .u8 (List.replicate 16 0)) 32)), lsto 9, lval (.bool false)] [o_, o_, o_, l_ 2 (.map (some m2)), b_ 1, f_ (.tuple #[.agg (cn .u8 (List.replicate 16 0)), .bool false]), o_, o_, o_, o_, o_, o_] [4, 3, 0, 5, 6] [b = b, (#[.bool i, t, .map (some m1), .map (some m2), .map (some m3), iN f] : Array Value)[3]? = some (.map (some m2)), bk = bk, (cn .u8 K).size = 16, RunV Tryz.prog [(14, .map (some m2)), (15, .agg (cn .u8 K)), (8, .bool false), (4, pT br), (3, pT bk), (0, pT b)] [(br, .cells (cn .u8 (List.replicate 16 0)) 32), (bk, .cells (cn .u8 K) 32), (b, oC #[.bool i, t, .map (some m1), .map (some m2), .map (some m3), iN f] 73), (m2, KM ks)] (opAt Tryz.f32 3 5) (.tuple #[.agg (cn .u8 (List.replicate 16 0)), .bool false])] (fun nb => [(6, .bool false), (5, pT (nb 9)), (4, pT br), (3, pT bk), (0, pT b)]) (fun nb => [((nb 9), .cells (cn .u8 (List.replicate 16 0)) 32), (br, .cells (cn .u8 (List.replicate 16 0)) 32), (bk, .cells (cn .u8 K) 32), (b, oC #[.bool i, t, .map (some m1), .map (some m2), .map (some m3), iN f] 73), (m2, KM ks)]) (by kernel_rfl) (by kernel_rfl) (by kernel_rfl) (by kernel_rfl) (fun _ => by kernel_rfl) (fun _ => by kernel_rfl) ⟨(fun a w => ⟨rfl, by simp [execOp, go_sem, cn]⟩), ⟨⟨5, 17, 32, (cn .u8 (List.replicate 16 0)), (cn .u8 (List.replicate 16 0)), 7, rfl, rfl, rfl, by kernel_rfl, rfl, rfl, by kernel_rfl, rfl, rfl, ((cn_size _ _).trans (List.length_replicate ..)).trans (((cn_size _ _).trans (List.length_replicate ..))).symm, (cn_one _ _), (show _ = some 16 by kernel_rfl).trans (congrArg some (((cn_size _ _).trans (List.length_replicate ..))).symm)⟩, trivial⟩⟩ ⟨rfl, rfl, rfl, ((cn_size _ _).trans hK.1), (mapNo_ok (t := 70) (m := (.tmp 14)) (y := (.tmp 15)) (b := m2) (i := 3) (kf := (fun X => .agg (cn .u8 X))) (vf := (fun X => .agg (cn .u8 X))) (l := ks) (x := K) (c := true) (z := .agg (cn .u8 (List.replicate 16 0))) (by kernel_rfl) rfl rfl Tryz.underlying70 id_law (fun p hp => (hk.1 p hp).1) hk.2 hK rfl (by kernel_rfl) hg), trivial⟩ (fun nb ac3 wd3 FF3 MM3 => then_n ?_))
    generalize nb 9 = bo at *
    refine wp_seq (rg_c FF3 MM3 [] 6 [19] [] (fun _ _ FF4 MM4 => then_n ?_))
    refine wp_cond_false (FF4.ev 0 rfl) ?_
    refine wp_skip ?_
    refine then_n ?_
    refine wp_seq (rg_c FF4 MM4 [(0, b_ 2), (0, b_ 1)] 6 [] [] (⟨rfl, ((cn_size _ _).trans hK.1), rfl, ((cn_size _ _).trans (List.length_replicate ..)), ((cn_size _ _).trans hK.1), (cn_one _ _), rfl, fun _ _ FF5 MM5 => then_n ?_⟩))
    refine wp_ret ?_
    repeat first | refine then_ret ?_ | refine inb_ret ?_
    exact (retc FF5 MM5 (k := 16) (i := 1) (j := 1) Tryz.results32 rfl rfl Tryz.underlying32 rfl (by kernel_rfl) ((cn_size _ _).trans hK.1) ⟨by rw [ownN, hg]; rfl, MM5.turnB [] H (fun _ h => (nomatch h)) (List.forall_mem_cons.2 ⟨.inl (List.mem_of_getElem? (i := 3) rfl), (List.forall_mem_cons.2 ⟨.inl (List.mem_of_getElem? (i := 4) rfl), (fun _ h => (nomatch h))⟩)⟩)⟩)
  | some own =>
    refine wp_seq (rg_lay FF2 MM2 [lval (pT b), lval (pT b), lval (.pointer (some ⟨b, 3, none⟩)), lval (.map (some m2)), lval (.agg (cn .u8 K)), lval (.tuple #[.agg (cn .u8 own), .bool true]), lval (.tuple #[.agg (cn .u8 own), .bool true]), lval (.agg (cn .u8 own)), lval (.bool true), lnew (.cells (cn .u8 (List.replicate 16 0)) 32) (fun b => pT b) (some (10, .cells (cn .u8 own) 32)), lsto 9, lval (.bool true)] [o_, o_, o_, l_ 2 (.map (some m2)), b_ 1, f_ (.tuple #[.agg (cn .u8 own), .bool true]), o_, o_, o_, o_, o_, o_] [4, 3, 0, 5, 6] [b = b, (#[.bool i, t, .map (some m1), .map (some m2), .map (some m3), iN f] : Array Value)[3]? = some (.map (some m2)), bk = bk, (cn .u8 K).size = 16, RunV Tryz.prog [(14, .map (some m2)), (15, .agg (cn .u8 K)), (8, .bool false), (4, pT br), (3, pT bk), (0, pT b)] [(br, .cells (cn .u8 (List.replicate 16 0)) 32), (bk, .cells (cn .u8 K) 32), (b, oC #[.bool i, t, .map (some m1), .map (some m2), .map (some m3), iN f] 73), (m2, KM ks)] (opAt Tryz.f32 3 5) (.tuple #[.agg (cn .u8 own), .bool true])] (fun nb => [(6, .bool true), (5, pT (nb 9)), (4, pT br), (3, pT bk), (0, pT b)]) (fun nb => [((nb 9), .cells (cn .u8 own) 32), (br, .cells (cn .u8 (List.replicate 16 0)) 32), (bk, .cells (cn .u8 K) 32), (b, oC #[.bool i, t, .map (some m1), .map (some m2), .map (some m3), iN f] 73), (m2, KM ks)]) (by kernel_rfl) (by kernel_rfl) (by kernel_rfl) (by kernel_rfl) (fun _ => by kernel_rfl) (fun _ => by kernel_rfl) ⟨(fun a w => ⟨rfl, by simp [execOp, go_sem, cn]⟩), ⟨⟨5, 17, 32, (cn .u8 (List.replicate 16 0)), (cn .u8 own), 7, rfl, rfl, rfl, by kernel_rfl, rfl, rfl, by kernel_rfl, rfl, rfl, ((cn_size _ _).trans (List.length_replicate ..)).trans (((cn_size _ _).trans (hk.1 _ (mget_mem hg)).2.1)).symm, (cn_one _ _), (show _ = some 16 by kernel_rfl).trans (congrArg some (((cn_size _ _).trans (hk.1 _ (mget_mem hg)).2.1)).symm)⟩, trivial⟩⟩ ⟨rfl, rfl, rfl, ((cn_size _ _).trans hK.1), (mapYes_ok (t := 70) (m := (.tmp 14)) (y := (.tmp 15)) (b := m2) (i := 3) (kf := (fun X => .agg (cn .u8 X))) (vf := (fun X => .agg (cn .u8 X))) (l := ks) (x := K) (c := true) (v := own) (by kernel_rfl) rfl rfl Tryz.underlying70 id_law (fun p hp => (hk.1 p hp).1) hk.2 hK rfl hg), trivial⟩ (fun nb ac6 wd6 FF6 MM6 => then_n ?_))
    generalize nb 9 = bo at *
    refine wp_seq (rg_c FF6 MM6 [] 6 [19] [] (fun _ _ FF7 MM7 => then_n ?_))
    refine wp_cond_true (FF7.ev 0 rfl) ?_
    refine wp_seq (rg_c FF7 MM7 [(0, b_ 0), (0, b_ 1)] 6 [] [] (⟨rfl, ((cn_size _ _).trans (hk.1 _ (mget_mem hg)).2.1), rfl, ((cn_size _ _).trans (List.length_replicate ..)), ((cn_size _ _).trans (hk.1 _ (mget_mem hg)).2.1), (cn_one _ _), rfl, fun _ _ FF8 MM8 => then_n ?_⟩))
    refine wp_ret ?_
    repeat first | refine then_ret ?_ | refine inb_ret ?_
    exact (retc FF8 MM8 (k := 16) (i := 1) (j := 1) Tryz.results32 rfl rfl Tryz.underlying32 rfl (by kernel_rfl) ((cn_size _ _).trans (hk.1 _ (mget_mem hg)).2.1) ⟨by rw [ownN, hg]; rfl, MM8.turnB [] H (fun _ h => (nomatch h)) (List.forall_mem_cons.2 ⟨.inl (List.mem_of_getElem? (i := 3) rfl), (List.forall_mem_cons.2 ⟨.inl (List.mem_of_getElem? (i := 4) rfl), (fun _ h => (nomatch h))⟩)⟩)⟩)
set_option maxRecDepth 100000 in
theorem pshare_any {b m1 m2 m3 : Nat} {f : Nat} {i : Bool} {t : Nat} {ks : Pairs} {K : List Nat} (hk : OkP 32 ks) (hK : BytesK 32 K) {X : List Nat} {u : Nat} (hX : ∀ i, X.getD i 0 < 256) (hu : u < 4611686018427000000) (w0 : World) (H : Has w0 [(b, oC #[.bool i, pT t, .map (some m1), .map (some m2), .map (some m3), iN f] 73), (m1, KM ks), (t, oC #[sB X, iN u] 75)]) (hD : Distinct [(b, oC #[.bool i, pT t, .map (some m1), .map (some m2), .map (some m3), iN f] 73), (m1, KM ks), (t, oC #[sB X, iN u] 75)]) :
    Calls Tryz.prog 29 #[pT b, .agg (cn .u8 K)] w0 fun e w' => e = .returned (.tuple #[]) ∧ TurnB [(m1, KM (shareK i 32 K ks X)), (t, TB (X.drop (shareU i 32 K ks)) (u + shareU i 32 K ks))] w0 w' := by
  refine enter_fr Tryz.func29 rfl Tryz.ntmps29 (by simp) fun ac (FF : Fr 31 ac [(0, pT b), (1, .agg (cn .u8 K))]) => ?_
  have MM : MemS (fun k => k < w0.heap.size ∧ ∀ x ∈ [(b, oC #[.bool i, pT t, .map (some m1), .map (some m2), .map (some m3), iN f] 73), (m1, KM ks), (t, oC #[sB X, iN u] 75)], x.1 ≠ k) w0 w0 [(b, oC #[.bool i, pT t, .map (some m1), .map (some m2), .map (some m3), iN f] 73), (m1, KM ks), (t, oC #[sB X, iN u] 75)] [] := MemS.startN H hD
  refine wp_seq (rg_c FF MM [(0, s_ 0 (.cells (cn .u8 K) 23))] 1 [3] [] (⟨(by kernel_rfl), fun bk => fun _ _ FF1 MM1 => then_n ?_⟩))
  refine wp_seq ?_
  cases hg : mget K ks with
  | none =>
    refine wp_seq (rg_c FF1 MM1 [(1, f_ (.bool false)), (2, b_ 0), (0, u_ 1 (.bool false))] 4 [10] [] (⟨(ptrSome_ok (t := 39) (t' := 39) (x := (.tmp 4)) (y := (.const (.pointer none))) (by kernel_rfl) rfl rfl Tryz.underlying39), rfl, ((cn_size _ _).trans hK.1), (callP_B [1, 2] en_pshared rfl (fun w Hw => by have h0 := pshared_any hk hK w Hw (distinct_names rfl (distinct_at MM1.distinct (is := [1, 2]) rfl rfl)); rw [hg] at h0; exact h0)), fun _ _ FF2 MM2 => then_n ?_⟩))
    refine wp_cond_false (FF2.ev 0 rfl) ?_
    refine wp_skip ?_
    refine then_n ?_
    cases i with
    | false =>
      refine wp_seq (rg_c FF2 MM2 [(3, l_ 1 (.bool false))] 4 [14] [] (⟨rfl, rfl, fun _ _ FF3 MM3 => then_n ?_⟩))
      refine wp_cond_false (FF3.ev 0 rfl) ?_
      refine rg_dc 6 FF3 MM3 [(3, l_ 1 (.map (some m1))), (0, b_ 0), (0, b_ 0)] [(0, r_ undef [(2, KM (ks ++ [(K, K)]))])] 4 [] [] (⟨rfl, rfl, rfl, ((cn_size _ _).trans hK.1), rfl, ((cn_size _ _).trans hK.1), (by rw [← mput_new _ hg]; exact (mapPut_ok (t := 69) (m := (.tmp 28)) (y := (.tmp 29)) (z := (.tmp 30)) (b := m1) (i := 2) (kf := (fun X => .agg (cn .u8 X))) (vf := (fun X => .agg (cn .u8 X))) (l := ks) (x := K) (v := K) (by kernel_rfl) rfl rfl rfl Tryz.underlying69 key_law (fun p hp => (hk.1 p hp).1) hk.2 hK rfl)), fun _ _ FF4 MM4 => ?_⟩)
      exact (end_none FF4 Tryz.results29 (by rw [(share_no hg _).1, (share_no hg []).2]; exact ⟨rfl, MM4.turnB [(m1, KM (ks ++ [(K, K)])), (t, oC #[sB X, iN u] 75)] H (List.forall_mem_cons.2 ⟨(List.mem_of_getElem? (i := 2) rfl), (List.forall_mem_cons.2 ⟨(List.mem_of_getElem? (i := 3) rfl), (fun _ h => (nomatch h))⟩)⟩) (List.forall_mem_cons.2 ⟨.inl (List.mem_of_getElem? (i := 1) rfl), (List.forall_mem_cons.2 ⟨.inr ⟨_, (List.mem_of_getElem? (i := 0) rfl), rfl⟩, (List.forall_mem_cons.2 ⟨.inr ⟨_, (List.mem_of_getElem? (i := 1) rfl), rfl⟩, (fun _ h => (nomatch h))⟩)⟩)⟩)⟩))
    | true =>
      refine wp_seq (rg_c FF2 MM2 [(3, l_ 1 (.bool true))] 4 [14] [] (⟨rfl, rfl, fun _ _ FF5 MM5 => then_n ?_⟩))
      refine wp_cond_true (FF5.ev 0 rfl) ?_
      refine late_stand (N := 11) [(b, oC #[.bool true, pT t, .map (some m1), .map (some m2), .map (some m3), iN f] 73), (bk, .cells (cn .u8 K) 23)] (by kernel_rfl) (by kernel_rfl) MM5 fun wq6 MM7 => ?_
      refine late_take FF5 (i := 0) (oi := (opAt Tryz.f29 3 0)) (v := (pT b)) (d := 15) (atL_has (is := [1, 0]) rfl MM7.hasL) (by kernel_rfl) (by kernel_rfl) (by kernel_rfl) (by kernel_rfl) (by kernel_rfl) (fun _ _ _ _ _ h => h) (by kernel_rfl) (by decide) (by kernel_rfl) (mvV (x := (.tmp 0)) (by kernel_rfl) rfl) fun _ FF8 => ?_
      refine late_take FF8 (i := 1) (oi := (opAt Tryz.f29 3 1)) (v := (pT b)) (d := 16) (atL_has (is := [1, 0]) rfl MM7.hasL) (by kernel_rfl) (by kernel_rfl) (by kernel_rfl) (by kernel_rfl) (by kernel_rfl) (fun _ _ _ _ _ h => h) (by kernel_rfl) (by decide) (by kernel_rfl) (nilV (x := (.tmp 15)) (by kernel_rfl) rfl) fun _ FF9 => ?_
      refine late_take FF9 (i := 2) (oi := (opAt Tryz.f29 3 2)) (v := (.pointer (some ⟨b, 2, none⟩))) (d := 17) (atL_has (is := [1, 0]) rfl MM7.hasL) (by kernel_rfl) (by kernel_rfl) (by kernel_rfl) (by kernel_rfl) (by kernel_rfl) (fun _ _ _ _ _ h => h) (by kernel_rfl) (by decide) (by kernel_rfl) (fldV (x := (.tmp 16)) (t := 73) (k := 2) (cs := []) (by kernel_rfl) rfl (by kernel_rfl)) fun _ FF10 => ?_
      refine late_take FF10 (i := 3) (oi := (opAt Tryz.f29 3 3)) (v := (.map (some m1))) (d := 18) (atL_has (is := [1, 0]) rfl MM7.hasL) (by kernel_rfl) (by kernel_rfl) (by kernel_rfl) (by kernel_rfl) (by kernel_rfl) (fun _ _ _ _ _ h => h) (by kernel_rfl) (by decide) (by kernel_rfl) (loadVi (x := (.tmp 17)) (k := 0) (by kernel_rfl) rfl Tryz.underlying69 rfl rfl rfl) fun _ FF11 => ?_
      refine late_take FF11 (i := 4) (oi := (opAt Tryz.f29 3 4)) (v := (.agg (cn .u8 K))) (d := 19) (atL_has (is := [1, 0]) rfl MM7.hasL) (by kernel_rfl) (by kernel_rfl) (by kernel_rfl) (by kernel_rfl) (by kernel_rfl) (fun _ _ _ _ _ h => h) (by kernel_rfl) (by decide) (by kernel_rfl) (loadRi (x := (.tmp 3)) (k := 1) (m := 32) (by kernel_rfl) rfl Tryz.underlying23 rfl (by kernel_rfl) rfl ((cn_size _ _).trans hK.1)) fun _ FF12 => ?_
      refine late_take FF12 (i := 5) (oi := (opAt Tryz.f29 3 5)) (v := (pT b)) (d := 20) (atL_has (is := [1, 0]) rfl MM7.hasL) (by kernel_rfl) (by kernel_rfl) (by kernel_rfl) (by kernel_rfl) (by kernel_rfl) (fun _ _ _ _ _ h => h) (by kernel_rfl) (by decide) (by kernel_rfl) (mvV (x := (.tmp 0)) (by kernel_rfl) rfl) fun _ FF13 => ?_
      refine late_take FF13 (i := 6) (oi := (opAt Tryz.f29 3 6)) (v := (pT b)) (d := 21) (atL_has (is := [1, 0]) rfl MM7.hasL) (by kernel_rfl) (by kernel_rfl) (by kernel_rfl) (by kernel_rfl) (by kernel_rfl) (fun _ _ _ _ _ h => h) (by kernel_rfl) (by decide) (by kernel_rfl) (nilV (x := (.tmp 20)) (by kernel_rfl) rfl) fun _ FF14 => ?_
      refine late_take FF14 (i := 7) (oi := (opAt Tryz.f29 3 7)) (v := (.pointer (some ⟨b, 1, none⟩))) (d := 22) (atL_has (is := [1, 0]) rfl MM7.hasL) (by kernel_rfl) (by kernel_rfl) (by kernel_rfl) (by kernel_rfl) (by kernel_rfl) (fun _ _ _ _ _ h => h) (by kernel_rfl) (by decide) (by kernel_rfl) (fldV (x := (.tmp 21)) (t := 73) (k := 1) (cs := []) (by kernel_rfl) rfl (by kernel_rfl)) fun _ FF15 => ?_
      refine late_take FF15 (i := 8) (oi := (opAt Tryz.f29 3 8)) (v := (pT t)) (d := 23) (atL_has (is := [1, 0]) rfl MM7.hasL) (by kernel_rfl) (by kernel_rfl) (by kernel_rfl) (by kernel_rfl) (by kernel_rfl) (fun _ _ _ _ _ h => h) (by kernel_rfl) (by decide) (by kernel_rfl) (loadVi (x := (.tmp 22)) (k := 0) (by kernel_rfl) rfl Tryz.underlying41 rfl rfl rfl) fun _ FF16 => ?_
      refine late_one (i := 9) (oi := (opAt Tryz.f29 3 9)) (by kernel_rfl) (by kernel_rfl) ?_
      refine rp_c 1 FF16 MM7 [(0, c_ (.agg (cn .u8 (takN 32 X))) [(3, oC #[sB (X.drop 32), iN (u + 32)] 75)])] 4 [19, 18, 24] [] (⟨(callU_turn en_tkey (g := t) (ob := TB X u) rfl fun w hg => by have h0 := tkey_any t X u hX (by omega) w hg; exact h0), fun _ _ FF17 MM17 => ?_⟩)
      refine wpl_nil (onN_n ⟨fun _ => (atL_has (is := [1, 0]) rfl MM17.hasL), ?_⟩)
      refine late_one (i := 10) (oi := (opAt Tryz.f29 3 10)) (by kernel_rfl) (by kernel_rfl) ?_
      refine rp_c 1 FF17 MM17 [(0, r_ undef [(2, KM (ks ++ [(K, takN 32 X)]))])] 4 [] [] (⟨(by rw [← mput_new _ hg]; exact (mapPut_ok (t := 69) (m := (.tmp 18)) (y := (.tmp 19)) (z := (.tmp 24)) (b := m1) (i := 2) (kf := (fun X => .agg (cn .u8 X))) (vf := (fun X => .agg (cn .u8 X))) (l := ks) (x := K) (v := takN 32 X) (by kernel_rfl) rfl rfl rfl Tryz.underlying69 key_law (fun p hp => (hk.1 p hp).1) hk.2 hK rfl)), fun _ _ FF18 MM18 => ?_⟩)
      refine wpl_nil (onN_n ⟨fun _ => (atL_has (is := [1, 0]) rfl MM18.hasL), ?_⟩)
      refine late_none (by kernel_rfl) ?_
      exact (end_none FF18 Tryz.results29 (by rw [(share_no hg _).1, (share_no hg []).2]; exact ⟨rfl, MM18.turnB [(m1, KM (ks ++ [(K, takN 32 X)])), (t, oC #[sB (X.drop 32), iN (u + 32)] 75)] H (List.forall_mem_cons.2 ⟨(List.mem_of_getElem? (i := 2) rfl), (List.forall_mem_cons.2 ⟨(List.mem_of_getElem? (i := 3) rfl), (fun _ h => (nomatch h))⟩)⟩) (List.forall_mem_cons.2 ⟨.inl (List.mem_of_getElem? (i := 1) rfl), (List.forall_mem_cons.2 ⟨.inr ⟨_, (List.mem_of_getElem? (i := 0) rfl), rfl⟩, (List.forall_mem_cons.2 ⟨.inr ⟨_, (List.mem_of_getElem? (i := 1) rfl), rfl⟩, (fun _ h => (nomatch h))⟩)⟩)⟩)⟩))
  | some own =>
    refine wp_seq (rg_c FF1 MM1 [(1, f_ (.bool false)), (2, b_ 0), (0, u_ 1 (.bool true))] 4 [10] [] (⟨(ptrSome_ok (t := 39) (t' := 39) (x := (.tmp 4)) (y := (.const (.pointer none))) (by kernel_rfl) rfl rfl Tryz.underlying39), rfl, ((cn_size _ _).trans hK.1), (callP_B [1, 2] en_pshared rfl (fun w Hw => by have h0 := pshared_any hk hK w Hw (distinct_names rfl (distinct_at MM1.distinct (is := [1, 2]) rfl rfl)); rw [hg] at h0; exact h0)), fun _ _ FF19 MM19 => then_n ?_⟩))
    refine wp_cond_true (FF19.ev 0 rfl) ?_
    refine wp_ret ?_
    repeat first | refine then_ret ?_ | refine inb_ret ?_
    exact (ret_none FF19 Tryz.results29 (by rw [(share_yes hg _).1, (share_yes hg []).2, List.drop_zero]; exact ⟨rfl, MM19.turnB [(m1, KM ks), (t, oC #[sB X, iN u] 75)] H (List.forall_mem_cons.2 ⟨(List.mem_of_getElem? (i := 2) rfl), (List.forall_mem_cons.2 ⟨(List.mem_of_getElem? (i := 3) rfl), (fun _ h => (nomatch h))⟩)⟩) (List.forall_mem_cons.2 ⟨.inl (List.mem_of_getElem? (i := 1) rfl), (List.forall_mem_cons.2 ⟨.inr ⟨_, (List.mem_of_getElem? (i := 0) rfl), rfl⟩, (List.forall_mem_cons.2 ⟨.inr ⟨_, (List.mem_of_getElem? (i := 1) rfl), rfl⟩, (fun _ h => (nomatch h))⟩)⟩)⟩)⟩))
set_option maxRecDepth 100000 in
theorem pshare_real {b m1 m2 m3 : Nat} {f : Nat} {t_ : Value} {ks : Pairs} {K : List Nat} (hk : OkP 32 ks) (hK : BytesK 32 K) (w0 : World) (H : Has w0 [(b, oC #[.bool false, t_, .map (some m1), .map (some m2), .map (some m3), iN f] 73), (m1, KM ks)]) (hD : Distinct [(b, oC #[.bool false, t_, .map (some m1), .map (some m2), .map (some m3), iN f] 73), (m1, KM ks)]) :
    Calls Tryz.prog 29 #[pT b, .agg (cn .u8 K)] w0 fun e w' => e = .returned (.tuple #[]) ∧ TurnB [(m1, KM (shareK false 32 K ks []))] w0 w' := by
  refine enter_fr Tryz.func29 rfl Tryz.ntmps29 (by simp) fun ac (FF : Fr 31 ac [(0, pT b), (1, .agg (cn .u8 K))]) => ?_
  have MM : MemS (fun k => k < w0.heap.size ∧ ∀ x ∈ [(b, oC #[.bool false, t_, .map (some m1), .map (some m2), .map (some m3), iN f] 73), (m1, KM ks)], x.1 ≠ k) w0 w0 [(b, oC #[.bool false, t_, .map (some m1), .map (some m2), .map (some m3), iN f] 73), (m1, KM ks)] [] := MemS.startN H hD
  refine wp_seq (rg_c FF MM [(0, s_ 0 (.cells (cn .u8 K) 23))] 1 [3] [] (⟨(by kernel_rfl), fun bk => fun _ _ FF1 MM1 => then_n ?_⟩))
  refine wp_seq ?_
  cases hg : mget K ks with
  | none =>
    refine wp_seq (rg_c FF1 MM1 [(1, f_ (.bool false)), (2, b_ 0), (0, u_ 1 (.bool false))] 4 [10] [] (⟨(ptrSome_ok (t := 39) (t' := 39) (x := (.tmp 4)) (y := (.const (.pointer none))) (by kernel_rfl) rfl rfl Tryz.underlying39), rfl, ((cn_size _ _).trans hK.1), (callP_B [1, 2] en_pshared rfl (fun w Hw => by have h0 := pshared_any hk hK w Hw (distinct_names rfl (distinct_at MM1.distinct (is := [1, 2]) rfl rfl)); rw [hg] at h0; exact h0)), fun _ _ FF2 MM2 => then_n ?_⟩))
    refine wp_cond_false (FF2.ev 0 rfl) ?_
    refine wp_skip ?_
    refine then_n ?_
    refine wp_seq (rg_c FF2 MM2 [(3, l_ 1 (.bool false))] 4 [14] [] (⟨rfl, rfl, fun _ _ FF3 MM3 => then_n ?_⟩))
    refine wp_cond_false (FF3.ev 0 rfl) ?_
    refine rg_dc 6 FF3 MM3 [(3, l_ 1 (.map (some m1))), (0, b_ 0), (0, b_ 0)] [(0, r_ undef [(2, KM (ks ++ [(K, K)]))])] 4 [] [] (⟨rfl, rfl, rfl, ((cn_size _ _).trans hK.1), rfl, ((cn_size _ _).trans hK.1), (by rw [← mput_new _ hg]; exact (mapPut_ok (t := 69) (m := (.tmp 28)) (y := (.tmp 29)) (z := (.tmp 30)) (b := m1) (i := 2) (kf := (fun X => .agg (cn .u8 X))) (vf := (fun X => .agg (cn .u8 X))) (l := ks) (x := K) (v := K) (by kernel_rfl) rfl rfl rfl Tryz.underlying69 key_law (fun p hp => (hk.1 p hp).1) hk.2 hK rfl)), fun _ _ FF4 MM4 => ?_⟩)
    exact (end_none FF4 Tryz.results29 (by rw [(share_no hg _).1]; exact ⟨rfl, MM4.turnB [(m1, KM (ks ++ [(K, K)]))] H (List.forall_mem_cons.2 ⟨(List.mem_of_getElem? (i := 2) rfl), (fun _ h => (nomatch h))⟩) (List.forall_mem_cons.2 ⟨.inl (List.mem_of_getElem? (i := 1) rfl), (List.forall_mem_cons.2 ⟨.inr ⟨_, (List.mem_of_getElem? (i := 0) rfl), rfl⟩, (fun _ h => (nomatch h))⟩)⟩)⟩))
  | some own =>
    refine wp_seq (rg_c FF1 MM1 [(1, f_ (.bool false)), (2, b_ 0), (0, u_ 1 (.bool true))] 4 [10] [] (⟨(ptrSome_ok (t := 39) (t' := 39) (x := (.tmp 4)) (y := (.const (.pointer none))) (by kernel_rfl) rfl rfl Tryz.underlying39), rfl, ((cn_size _ _).trans hK.1), (callP_B [1, 2] en_pshared rfl (fun w Hw => by have h0 := pshared_any hk hK w Hw (distinct_names rfl (distinct_at MM1.distinct (is := [1, 2]) rfl rfl)); rw [hg] at h0; exact h0)), fun _ _ FF5 MM5 => then_n ?_⟩))
    refine wp_cond_true (FF5.ev 0 rfl) ?_
    refine wp_ret ?_
    repeat first | refine then_ret ?_ | refine inb_ret ?_
    exact (ret_none FF5 Tryz.results29 (by rw [(share_yes hg _).1]; exact ⟨rfl, MM5.turnB [(m1, KM ks)] H (List.forall_mem_cons.2 ⟨(List.mem_of_getElem? (i := 2) rfl), (fun _ h => (nomatch h))⟩) (List.forall_mem_cons.2 ⟨.inl (List.mem_of_getElem? (i := 1) rfl), (List.forall_mem_cons.2 ⟨.inr ⟨_, (List.mem_of_getElem? (i := 0) rfl), rfl⟩, (fun _ h => (nomatch h))⟩)⟩)⟩))
theorem shareU_real (n : Nat) (K : List Nat) (ks : Pairs) : shareU false n K ks = 0 := by
  unfold shareU
  split <;> rfl
set_option maxRecDepth 100000 in
theorem pshareid_any {b m1 m2 m3 : Nat} {f : Nat} {i : Bool} {t : Nat} {ks : Pairs} {K : List Nat} (hk : OkP 16 ks) (hK : BytesK 16 K) {X : List Nat} {u : Nat} (hX : ∀ i, X.getD i 0 < 256) (hu : u < 4611686018427000000) (w0 : World) (H : Has w0 [(b, oC #[.bool i, pT t, .map (some m1), .map (some m2), .map (some m3), iN f] 73), (m2, KM (idsP i ks)), (t, oC #[sB X, iN u] 75)]) (hD : Distinct [(b, oC #[.bool i, pT t, .map (some m1), .map (some m2), .map (some m3), iN f] 73), (m2, KM (idsP i ks)), (t, oC #[sB X, iN u] 75)]) :
    Calls Tryz.prog 30 #[pT b, .agg (cn .u8 K)] w0 fun e w' => e = .returned (.tuple #[]) ∧ TurnB [(m2, KM (idsP i (shareK i 16 K ks X))), (t, TB (X.drop (shareU i 16 K ks)) (u + shareU i 16 K ks))] w0 w' := by
  refine enter_fr Tryz.func30 rfl Tryz.ntmps30 (by simp) fun ac (FF : Fr 36 ac [(0, pT b), (1, .agg (cn .u8 K))]) => ?_
  have MM : MemS (fun k => k < w0.heap.size ∧ ∀ x ∈ [(b, oC #[.bool i, pT t, .map (some m1), .map (some m2), .map (some m3), iN f] 73), (m2, KM (idsP i ks)), (t, oC #[sB X, iN u] 75)], x.1 ≠ k) w0 w0 [(b, oC #[.bool i, pT t, .map (some m1), .map (some m2), .map (some m3), iN f] 73), (m2, KM (idsP i ks)), (t, oC #[sB X, iN u] 75)] [] := MemS.startN H hD
  refine wp_seq (rg_c FF MM [(0, s_ 0 (.cells (cn .u8 K) 32))] 1 [3] [] (⟨(by kernel_rfl), fun bk => fun _ _ FF1 MM1 => then_n ?_⟩))
  refine wp_seq ?_
  cases i with
  | false =>
    refine wp_seq (rg_c FF1 MM1 [(1, f_ (.bool false)), (4, l_ 1 (.bool false))] 4 [14] [] (⟨(ptrSome_ok (t := 39) (t' := 39) (x := (.tmp 6)) (y := (.const (.pointer none))) (by kernel_rfl) rfl rfl Tryz.underlying39), rfl, rfl, fun _ _ FF2 MM2 => then_n ?_⟩))
    refine wp_cond_true (FF2.ev 0 rfl) ?_
    refine wp_ret ?_
    repeat first | refine then_ret ?_ | refine inb_ret ?_
    exact (ret_none FF2 Tryz.results30 (by rw [shareU_real, List.drop_zero]; exact ⟨rfl, MM2.turnB [(m2, KM (idsP false ks)), (t, oC #[sB X, iN u] 75)] H (List.forall_mem_cons.2 ⟨(List.mem_of_getElem? (i := 2) rfl), (List.forall_mem_cons.2 ⟨(List.mem_of_getElem? (i := 3) rfl), (fun _ h => (nomatch h))⟩)⟩) (List.forall_mem_cons.2 ⟨.inl (List.mem_of_getElem? (i := 1) rfl), (List.forall_mem_cons.2 ⟨.inr ⟨_, (List.mem_of_getElem? (i := 0) rfl), rfl⟩, (List.forall_mem_cons.2 ⟨.inr ⟨_, (List.mem_of_getElem? (i := 1) rfl), rfl⟩, (fun _ h => (nomatch h))⟩)⟩)⟩)⟩))
  | true =>
    refine wp_seq (rg_c FF1 MM1 [(1, f_ (.bool false)), (4, l_ 1 (.bool true))] 4 [14] [] (⟨(ptrSome_ok (t := 39) (t' := 39) (x := (.tmp 6)) (y := (.const (.pointer none))) (by kernel_rfl) rfl rfl Tryz.underlying39), rfl, rfl, fun _ _ FF3 MM3 => then_n ?_⟩))
    refine wp_cond_false (FF3.ev 0 rfl) ?_
    refine wp_skip ?_
    refine then_n ?_
    have MM4 : MemS _ _ _ _ _ := MM3
    cases hg : mget K ks with
    | none =>
      refine wp_seq (rg_lay FF3 MM4 [lval (pT b), lval (pT b), lval (.pointer (some ⟨b, 3, none⟩)), lval (.map (some m2)), lval (.agg (cn .u8 K)), lval (.tuple #[.agg (cn .u8 (List.replicate 16 0)), .bool false]), lval (.tuple #[.agg (cn .u8 (List.replicate 16 0)), .bool false]), lval (.agg (cn .u8 (List.replicate 16 0))), lval (.bool false), lnew (.cells (cn .u8 (List.replicate 16 0)) 32) (fun b => pT b) (some (10, .cells (cn .u8 (List.replicate 16 0)) 32)), lsto 9, lval (.bool false)] [o_, o_, o_, l_ 1 (.map (some m2)), b_ 0, f_ (.tuple #[.agg (cn .u8 (List.replicate 16 0)), .bool false]), o_, o_, o_, o_, o_, o_] [3, 0, 5] [b = b, (#[.bool true, pT t, .map (some m1), .map (some m2), .map (some m3), iN f] : Array Value)[3]? = some (.map (some m2)), bk = bk, (cn .u8 K).size = 16, RunV Tryz.prog [(19, .map (some m2)), (20, .agg (cn .u8 K)), (14, .bool false), (3, pT bk), (0, pT b)] [(bk, .cells (cn .u8 K) 32), (b, oC #[.bool true, pT t, .map (some m1), .map (some m2), .map (some m3), iN f] 73), (m2, KM ks), (t, oC #[sB X, iN u] 75)] (opAt Tryz.f30 2 5) (.tuple #[.agg (cn .u8 (List.replicate 16 0)), .bool false])] (fun nb => [(5, .bool false), (3, pT bk), (0, pT b)]) (fun nb => [((nb 9), .cells (cn .u8 (List.replicate 16 0)) 32), (bk, .cells (cn .u8 K) 32), (b, oC #[.bool true, pT t, .map (some m1), .map (some m2), .map (some m3), iN f] 73), (m2, KM ks), (t, oC #[sB X, iN u] 75)]) (by kernel_rfl) (by kernel_rfl) (by kernel_rfl) (by kernel_rfl) (fun _ => by kernel_rfl) (fun _ => by kernel_rfl) ⟨(fun a w => ⟨rfl, by simp [execOp, go_sem, cn]⟩), ⟨⟨4, 22, 32, (cn .u8 (List.replicate 16 0)), (cn .u8 (List.replicate 16 0)), 7, rfl, rfl, rfl, by kernel_rfl, rfl, rfl, by kernel_rfl, rfl, rfl, ((cn_size _ _).trans (List.length_replicate ..)).trans (((cn_size _ _).trans (List.length_replicate ..))).symm, (cn_one _ _), (show _ = some 16 by kernel_rfl).trans (congrArg some (((cn_size _ _).trans (List.length_replicate ..))).symm)⟩, trivial⟩⟩ ⟨rfl, rfl, rfl, ((cn_size _ _).trans hK.1), (mapNo_ok (t := 70) (m := (.tmp 19)) (y := (.tmp 20)) (b := m2) (i := 2) (kf := (fun X => .agg (cn .u8 X))) (vf := (fun X => .agg (cn .u8 X))) (l := ks) (x := K) (c := true) (z := .agg (cn .u8 (List.replicate 16 0))) (by kernel_rfl) rfl rfl Tryz.underlying70 id_law (fun p hp => (hk.1 p hp).1) hk.2 hK rfl (by kernel_rfl) hg), trivial⟩ (fun nb ac5 wd5 FF5 MM5 => then_n ?_))
      generalize nb 9 = bo at *
      refine wp_seq (rg_c FF5 MM5 [] 4 [25] [] (fun _ _ FF6 MM6 => then_n ?_))
      refine wp_cond_true (FF6.ev 0 rfl) ?_
      refine late_stand (N := 11) [(b, oC #[.bool true, pT t, .map (some m1), .map (some m2), .map (some m3), iN f] 73), (bk, .cells (cn .u8 K) 32)] (by kernel_rfl) (by kernel_rfl) MM6 fun wq7 MM8 => ?_
      refine late_take FF6 (i := 0) (oi := (opAt Tryz.f30 4 0)) (v := (pT b)) (d := 26) (atL_has (is := [2, 1]) rfl MM8.hasL) (by kernel_rfl) (by kernel_rfl) (by kernel_rfl) (by kernel_rfl) (by kernel_rfl) (fun _ _ _ _ _ h => h) (by kernel_rfl) (by decide) (by kernel_rfl) (mvV (x := (.tmp 0)) (by kernel_rfl) rfl) fun _ FF9 => ?_
      refine late_take FF9 (i := 1) (oi := (opAt Tryz.f30 4 1)) (v := (pT b)) (d := 27) (atL_has (is := [2, 1]) rfl MM8.hasL) (by kernel_rfl) (by kernel_rfl) (by kernel_rfl) (by kernel_rfl) (by kernel_rfl) (fun _ _ _ _ _ h => h) (by kernel_rfl) (by decide) (by kernel_rfl) (nilV (x := (.tmp 26)) (by kernel_rfl) rfl) fun _ FF10 => ?_
      refine late_take FF10 (i := 2) (oi := (opAt Tryz.f30 4 2)) (v := (.pointer (some ⟨b, 3, none⟩))) (d := 28) (atL_has (is := [2, 1]) rfl MM8.hasL) (by kernel_rfl) (by kernel_rfl) (by kernel_rfl) (by kernel_rfl) (by kernel_rfl) (fun _ _ _ _ _ h => h) (by kernel_rfl) (by decide) (by kernel_rfl) (fldV (x := (.tmp 27)) (t := 73) (k := 3) (cs := []) (by kernel_rfl) rfl (by kernel_rfl)) fun _ FF11 => ?_
      refine late_take FF11 (i := 3) (oi := (opAt Tryz.f30 4 3)) (v := (.map (some m2))) (d := 29) (atL_has (is := [2, 1]) rfl MM8.hasL) (by kernel_rfl) (by kernel_rfl) (by kernel_rfl) (by kernel_rfl) (by kernel_rfl) (fun _ _ _ _ _ h => h) (by kernel_rfl) (by decide) (by kernel_rfl) (loadVi (x := (.tmp 28)) (k := 0) (by kernel_rfl) rfl Tryz.underlying70 rfl rfl rfl) fun _ FF12 => ?_
      refine late_take FF12 (i := 4) (oi := (opAt Tryz.f30 4 4)) (v := (.agg (cn .u8 K))) (d := 30) (atL_has (is := [2, 1]) rfl MM8.hasL) (by kernel_rfl) (by kernel_rfl) (by kernel_rfl) (by kernel_rfl) (by kernel_rfl) (fun _ _ _ _ _ h => h) (by kernel_rfl) (by decide) (by kernel_rfl) (loadRi (x := (.tmp 3)) (k := 1) (m := 16) (by kernel_rfl) rfl Tryz.underlying32 rfl (by kernel_rfl) rfl ((cn_size _ _).trans hK.1)) fun _ FF13 => ?_
      refine late_take FF13 (i := 5) (oi := (opAt Tryz.f30 4 5)) (v := (pT b)) (d := 31) (atL_has (is := [2, 1]) rfl MM8.hasL) (by kernel_rfl) (by kernel_rfl) (by kernel_rfl) (by kernel_rfl) (by kernel_rfl) (fun _ _ _ _ _ h => h) (by kernel_rfl) (by decide) (by kernel_rfl) (mvV (x := (.tmp 0)) (by kernel_rfl) rfl) fun _ FF14 => ?_
      refine late_take FF14 (i := 6) (oi := (opAt Tryz.f30 4 6)) (v := (pT b)) (d := 32) (atL_has (is := [2, 1]) rfl MM8.hasL) (by kernel_rfl) (by kernel_rfl) (by kernel_rfl) (by kernel_rfl) (by kernel_rfl) (fun _ _ _ _ _ h => h) (by kernel_rfl) (by decide) (by kernel_rfl) (nilV (x := (.tmp 31)) (by kernel_rfl) rfl) fun _ FF15 => ?_
      refine late_take FF15 (i := 7) (oi := (opAt Tryz.f30 4 7)) (v := (.pointer (some ⟨b, 1, none⟩))) (d := 33) (atL_has (is := [2, 1]) rfl MM8.hasL) (by kernel_rfl) (by kernel_rfl) (by kernel_rfl) (by kernel_rfl) (by kernel_rfl) (fun _ _ _ _ _ h => h) (by kernel_rfl) (by decide) (by kernel_rfl) (fldV (x := (.tmp 32)) (t := 73) (k := 1) (cs := []) (by kernel_rfl) rfl (by kernel_rfl)) fun _ FF16 => ?_
      refine late_take FF16 (i := 8) (oi := (opAt Tryz.f30 4 8)) (v := (pT t)) (d := 34) (atL_has (is := [2, 1]) rfl MM8.hasL) (by kernel_rfl) (by kernel_rfl) (by kernel_rfl) (by kernel_rfl) (by kernel_rfl) (fun _ _ _ _ _ h => h) (by kernel_rfl) (by decide) (by kernel_rfl) (loadVi (x := (.tmp 33)) (k := 0) (by kernel_rfl) rfl Tryz.underlying41 rfl rfl rfl) fun _ FF17 => ?_
      refine late_one (i := 9) (oi := (opAt Tryz.f30 4 9)) (by kernel_rfl) (by kernel_rfl) ?_
      refine rp_c 1 FF17 MM8 [(0, c_ (.agg (cn .u8 (takN 16 X))) [(4, oC #[sB (X.drop 16), iN (u + 16)] 75)])] 4 [30, 29, 35] [] (⟨(callU_turn en_tid (g := t) (ob := TB X u) rfl fun w hg => by have h0 := tid_any t X u hX (by omega) w hg; exact h0), fun _ _ FF18 MM18 => ?_⟩)
      refine wpl_nil (onN_n ⟨fun _ => (atL_has (is := [2, 1]) rfl MM18.hasL), ?_⟩)
      refine late_one (i := 10) (oi := (opAt Tryz.f30 4 10)) (by kernel_rfl) (by kernel_rfl) ?_
      refine rp_c 1 FF18 MM18 [(0, r_ undef [(3, KM (ks ++ [(K, takN 16 X)]))])] 4 [] [] (⟨(by rw [← mput_new _ hg]; exact (mapPut_ok (t := 70) (m := (.tmp 29)) (y := (.tmp 30)) (z := (.tmp 35)) (b := m2) (i := 3) (kf := (fun X => .agg (cn .u8 X))) (vf := (fun X => .agg (cn .u8 X))) (l := ks) (x := K) (v := takN 16 X) (by kernel_rfl) rfl rfl rfl Tryz.underlying70 id_law (fun p hp => (hk.1 p hp).1) hk.2 hK rfl)), fun _ _ FF19 MM19 => ?_⟩)
      refine wpl_nil (onN_n ⟨fun _ => (atL_has (is := [2, 1]) rfl MM19.hasL), ?_⟩)
      refine late_none (by kernel_rfl) ?_
      exact (end_none FF19 Tryz.results30 (by rw [(share_no hg _).1, (share_no hg []).2]; exact ⟨rfl, MM19.turnB [(m2, KM (ks ++ [(K, takN 16 X)])), (t, oC #[sB (X.drop 16), iN (u + 16)] 75)] H (List.forall_mem_cons.2 ⟨(List.mem_of_getElem? (i := 3) rfl), (List.forall_mem_cons.2 ⟨(List.mem_of_getElem? (i := 4) rfl), (fun _ h => (nomatch h))⟩)⟩) (List.forall_mem_cons.2 ⟨.inl (List.mem_of_getElem? (i := 2) rfl), (List.forall_mem_cons.2 ⟨.inr ⟨_, (List.mem_of_getElem? (i := 0) rfl), rfl⟩, (List.forall_mem_cons.2 ⟨.inr ⟨_, (List.mem_of_getElem? (i := 1) rfl), rfl⟩, (fun _ h => (nomatch h))⟩)⟩)⟩)⟩))
    | some own =>
      refine wp_seq (rg_lay FF3 MM4 [lval (pT b), lval (pT b), lval (.pointer (some ⟨b, 3, none⟩)), lval (.map (some m2)), lval (.agg (cn .u8 K)), lval (.tuple #[.agg (cn .u8 own), .bool true]), lval (.tuple #[.agg (cn .u8 own), .bool true]), lval (.agg (cn .u8 own)), lval (.bool true), lnew (.cells (cn .u8 (List.replicate 16 0)) 32) (fun b => pT b) (some (10, .cells (cn .u8 own) 32)), lsto 9, lval (.bool true)] [o_, o_, o_, l_ 1 (.map (some m2)), b_ 0, f_ (.tuple #[.agg (cn .u8 own), .bool true]), o_, o_, o_, o_, o_, o_] [3, 0, 5] [b = b, (#[.bool true, pT t, .map (some m1), .map (some m2), .map (some m3), iN f] : Array Value)[3]? = some (.map (some m2)), bk = bk, (cn .u8 K).size = 16, RunV Tryz.prog [(19, .map (some m2)), (20, .agg (cn .u8 K)), (14, .bool false), (3, pT bk), (0, pT b)] [(bk, .cells (cn .u8 K) 32), (b, oC #[.bool true, pT t, .map (some m1), .map (some m2), .map (some m3), iN f] 73), (m2, KM ks), (t, oC #[sB X, iN u] 75)] (opAt Tryz.f30 2 5) (.tuple #[.agg (cn .u8 own), .bool true])] (fun nb => [(5, .bool true), (3, pT bk), (0, pT b)]) (fun nb => [((nb 9), .cells (cn .u8 own) 32), (bk, .cells (cn .u8 K) 32), (b, oC #[.bool true, pT t, .map (some m1), .map (some m2), .map (some m3), iN f] 73), (m2, KM ks), (t, oC #[sB X, iN u] 75)]) (by kernel_rfl) (by kernel_rfl) (by kernel_rfl) (by kernel_rfl) (fun _ => by kernel_rfl) (fun _ => by kernel_rfl) ⟨(fun a w => ⟨rfl, by simp [execOp, go_sem, cn]⟩), ⟨⟨4, 22, 32, (cn .u8 (List.replicate 16 0)), (cn .u8 own), 7, rfl, rfl, rfl, by kernel_rfl, rfl, rfl, by kernel_rfl, rfl, rfl, ((cn_size _ _).trans (List.length_replicate ..)).trans (((cn_size _ _).trans (hk.1 _ (mget_mem hg)).2.1)).symm, (cn_one _ _), (show _ = some 16 by kernel_rfl).trans (congrArg some (((cn_size _ _).trans (hk.1 _ (mget_mem hg)).2.1)).symm)⟩, trivial⟩⟩ ⟨rfl, rfl, rfl, ((cn_size _ _).trans hK.1), (mapYes_ok (t := 70) (m := (.tmp 19)) (y := (.tmp 20)) (b := m2) (i := 2) (kf := (fun X => .agg (cn .u8 X))) (vf := (fun X => .agg (cn .u8 X))) (l := ks) (x := K) (c := true) (v := own) (by kernel_rfl) rfl rfl Tryz.underlying70 id_law (fun p hp => (hk.1 p hp).1) hk.2 hK rfl hg), trivial⟩ (fun nb ac20 wd20 FF20 MM20 => then_n ?_))
      generalize nb 9 = bo at *
      refine wp_seq (rg_c FF20 MM20 [] 4 [25] [] (fun _ _ FF21 MM21 => then_n ?_))
      refine wp_cond_false (FF21.ev 0 rfl) ?_
      refine wp_skip ?_
      exact (end_none FF21 Tryz.results30 (by rw [(share_yes hg _).1, (share_yes hg []).2, List.drop_zero]; exact ⟨rfl, MM21.turnB [(m2, KM ks), (t, oC #[sB X, iN u] 75)] H (List.forall_mem_cons.2 ⟨(List.mem_of_getElem? (i := 3) rfl), (List.forall_mem_cons.2 ⟨(List.mem_of_getElem? (i := 4) rfl), (fun _ h => (nomatch h))⟩)⟩) (List.forall_mem_cons.2 ⟨.inl (List.mem_of_getElem? (i := 2) rfl), (List.forall_mem_cons.2 ⟨.inr ⟨_, (List.mem_of_getElem? (i := 0) rfl), rfl⟩, (List.forall_mem_cons.2 ⟨.inr ⟨_, (List.mem_of_getElem? (i := 1) rfl), rfl⟩, (fun _ h => (nomatch h))⟩)⟩)⟩)⟩))
set_option maxRecDepth 100000 in
theorem pshareid_real {b m1 m2 m3 : Nat} {f : Nat} {t_ : Value} {K : List Nat} (_hK : BytesK 16 K) (w0 : World) (H : Has w0 [(b, oC #[.bool false, t_, .map (some m1), .map (some m2), .map (some m3), iN f] 73)]) (hD : Distinct [(b, oC #[.bool false, t_, .map (some m1), .map (some m2), .map (some m3), iN f] 73)]) :
    Calls Tryz.prog 30 #[pT b, .agg (cn .u8 K)] w0 fun e w' => e = .returned (.tuple #[]) ∧ TurnB [] w0 w' := by
  refine enter_fr Tryz.func30 rfl Tryz.ntmps30 (by simp) fun ac (FF : Fr 36 ac [(0, pT b), (1, .agg (cn .u8 K))]) => ?_
  have MM : MemS (fun k => k < w0.heap.size ∧ ∀ x ∈ [(b, oC #[.bool false, t_, .map (some m1), .map (some m2), .map (some m3), iN f] 73)], x.1 ≠ k) w0 w0 [(b, oC #[.bool false, t_, .map (some m1), .map (some m2), .map (some m3), iN f] 73)] [] := MemS.startN H hD
  refine wp_seq (rg_c FF MM [(0, s_ 0 (.cells (cn .u8 K) 32))] 1 [3] [] (⟨(by kernel_rfl), fun bk => fun _ _ FF1 MM1 => then_n ?_⟩))
  refine wp_seq ?_
  refine wp_seq (rg_c FF1 MM1 [(1, f_ (.bool false)), (4, l_ 1 (.bool false))] 4 [14] [] (⟨(ptrSome_ok (t := 39) (t' := 39) (x := (.tmp 6)) (y := (.const (.pointer none))) (by kernel_rfl) rfl rfl Tryz.underlying39), rfl, rfl, fun _ _ FF2 MM2 => then_n ?_⟩))
  refine wp_cond_true (FF2.ev 0 rfl) ?_
  refine wp_ret ?_
  repeat first | refine then_ret ?_ | refine inb_ret ?_
  exact (ret_none FF2 Tryz.results30 ⟨rfl, MM2.turnB [] H (fun _ h => (nomatch h)) (List.forall_mem_cons.2 ⟨.inl (List.mem_of_getElem? (i := 1) rfl), (fun _ h => (nomatch h))⟩)⟩)
end Go.Proofs.YtdjpacgjhcidpabGreatDoor
namespace Go.Proofs.YtdjpacgjhcidpabGreatDoor
open Go.RowKit
theorem en_lclone : Enters Tryz.prog 56 := fun args w => by simp [go_sem]
theorem en_clone : Enters Tryz.prog 35 := fun args w => by simp [go_sem]
theorem en_repeat : Enters Tryz.prog 39 := fun args w => by simp [go_sem]
def renR : Go.Shelf.Ren := ⟨fun | 99 => 58 | 105 => 39 | 165 => 59 | 166 => 60 | 169 => 62 | 170 => 61 | 206 => 80 | 212 => 57 | 240 => 81 | 241 => 82 | 263 => 78 | 264 => 79 | 276 => 102 | 277 => 103 | n => n, fun | 0 => 0 | 3 => 3 | 4 => 4 | 5 => 5 | 9 => 9 | 20 => 20 | 37 => 59 | 46 => 112 | 51 => 58 | 53 => 24 | 70 => 116 | 72 => 118 | 75 => 121 | 76 => 122 | 80 => 124 | 109 => 113 | 127 => 142 | 146 => 143 | 148 => 145 | 164 => 176 | n => n, fun | n => n⟩
theorem layR : Go.Proofs.Lays.n105 Tryz.prog renR := {
  mixed := by kernel_rfl
  f99 := Tryz.func58.trans (congrArg some (by kernel_rfl))
  f105 := Tryz.func39.trans (congrArg some (by kernel_rfl))
  f165 := Tryz.func59.trans (congrArg some (by kernel_rfl))
  f166 := Tryz.func60.trans (congrArg some (by kernel_rfl))
  f169 := Tryz.func62.trans (congrArg some (by kernel_rfl))
  f170 := Tryz.func61.trans (congrArg some (by kernel_rfl))
  f206 := Tryz.func80.trans (congrArg some (by kernel_rfl))
  f212 := Tryz.func57.trans (congrArg some (by kernel_rfl))
  f240 := Tryz.func81.trans (congrArg some (by kernel_rfl))
  f241 := Tryz.func82.trans (congrArg some (by kernel_rfl))
  f263 := Tryz.func78.trans (congrArg some (by kernel_rfl))
  f264 := Tryz.func79.trans (congrArg some (by kernel_rfl))
  f276 := Tryz.func102.trans (congrArg some (by kernel_rfl))
  f277 := Tryz.func103.trans (congrArg some (by kernel_rfl))
  t0 := Tryz.underlying0
  a0 := Tryz.isAgg0
  z0 := Tryz.sizeOf0
  v0 := Tryz.zeroValue0
  t3 := Tryz.underlying3
  a3 := Tryz.isAgg3
  z3 := Tryz.sizeOf3
  v3 := Tryz.zeroValue3
  t4 := Tryz.underlying4
  a4 := Tryz.isAgg4
  z4 := Tryz.sizeOf4
  v4 := Tryz.zeroValue4
  t5 := Tryz.underlying5
  a5 := Tryz.isAgg5
  z5 := Tryz.sizeOf5
  v5 := Tryz.zeroValue5
  t9 := Tryz.underlying9
  a9 := Tryz.isAgg9
  z9 := Tryz.sizeOf9
  v9 := Tryz.zeroValue9
  t20 := Tryz.underlying20
  a20 := Tryz.isAgg20
  z20 := Tryz.sizeOf20
  v20 := Tryz.zeroValue20
  t37 := Tryz.underlying59
  a37 := Tryz.isAgg59
  z37 := Tryz.sizeOf59
  v37 := Tryz.zeroValue59
  t46 := Tryz.underlying112
  a46 := Tryz.isAgg112
  z46 := Tryz.sizeOf112
  v46 := Tryz.zeroValue112
  t51 := Tryz.underlying58
  a51 := Tryz.isAgg58
  z51 := Tryz.sizeOf58
  v51 := Tryz.zeroValue58
  t53 := Tryz.underlying24
  a53 := Tryz.isAgg24
  z53 := Tryz.sizeOf24
  v53 := Tryz.zeroValue24
  t70 := Tryz.underlying116
  a70 := Tryz.isAgg116
  z70 := Tryz.sizeOf116
  v70 := Tryz.zeroValue116
  t72 := Tryz.underlying118
  a72 := Tryz.isAgg118
  z72 := Tryz.sizeOf118
  v72 := Tryz.zeroValue118
  t75 := Tryz.underlying121
  a75 := Tryz.isAgg121
  z75 := Tryz.sizeOf121
  v75 := Tryz.zeroValue121
  t76 := Tryz.underlying122
  a76 := Tryz.isAgg122
  z76 := Tryz.sizeOf122
  v76 := Tryz.zeroValue122
  t109 := Tryz.underlying113
  a109 := Tryz.isAgg113
  z109 := Tryz.sizeOf113
  v109 := Tryz.zeroValue113
  t127 := Tryz.underlying142
  a127 := Tryz.isAgg142
  z127 := Tryz.sizeOf142
  v127 := Tryz.zeroValue142
  t146 := Tryz.underlying143
  a146 := Tryz.isAgg143
  z146 := Tryz.sizeOf143
  v146 := Tryz.zeroValue143
  t148 := Tryz.underlying145
  a148 := Tryz.isAgg145
  z148 := Tryz.sizeOf145
  v148 := Tryz.zeroValue145
  t164 := Tryz.underlying176
  a164 := Tryz.isAgg176
  z164 := Tryz.sizeOf176
  v164 := Tryz.zeroValue176 }
theorem extraR : Go.Proofs.Builder.Extra Tryz.prog renR := {
  sizeBuilder := by kernel_rfl
  liesBuilder := by kernel_rfl
  t5 := Tryz.underlying5
  a5 := Tryz.isAgg5
  z5 := Tryz.sizeOf5
  v5 := Tryz.zeroValue5
  infoByte := by kernel_rfl
  cellsByte := by kernel_rfl
  sizeByte := by kernel_rfl
  neB5 := by decide }
theorem repL_bs : ∀ k : Nat, Go.Lib.repeatL (bs [0]).data.toList k = (List.replicate k 0).map (UInt8.ofNat ·)
  | 0 => rfl
  | k + 1 => by
    rw [Go.Lib.repeatL, repL_bs k, List.replicate_succ, List.map_cons]
    rfl
theorem repeat0_any (k : Nat) (hk : k ≤ 100000000) (w : World) : Calls Tryz.prog 39 #[sB [0], iN k] w fun e w' => e = .returned (sB (List.replicate k 0)) ∧ Below w.heap.size w w' := by
  have h0 := Go.Proofs.Any.strings_Repeat layR extraR (bs [0]) k w (by omega) (by rw [bs_size, List.length_singleton]; omega)
  rw [repL_bs] at h0
  exact h0
set_option maxRecDepth 100000 in
theorem lclone_any (X : List Nat) (hX : ∀ i, X.getD i 0 < 256) (hl : X.length ≤ 1000000) (w0 : World) :
    Calls Tryz.prog 56 #[sB X] w0 fun e w' => e = .returned (sB X) ∧ Below w0.heap.size w0 w' := by
  refine enter_fr Tryz.func56 rfl Tryz.ntmps56 (by simp) fun ac (FF : Fr 18 ac [(0, sB X)]) => ?_
  have MM := MemS.start w0
  refine wp_seq (rg_c FF MM [(0, t_ (sB []))] 3 [] [] (⟨(by kernel_rfl), fun _ _ FF1 MM1 => then_n ?_⟩))
  refine wp_seq ?_
  refine wp_seq (rg_c FF1 MM1 [(1, t_ (iN X.length))] 3 [6] [] (⟨(vI (bs_size _)), fun _ _ FF2 MM2 => then_n ?_⟩))
  by_cases hs6 : X.length = 0
  · refine wp_cond_true ((FF2.ev 0 rfl).trans (dec_t hs6)) ?_
    obtain rfl : X = [] := List.eq_nil_of_length_eq_zero hs6
    refine wp_seq (rg_c FF2 MM2 [(0, t_ (sB []))] 3 [] [] (⟨(by kernel_rfl), fun _ _ FF3 MM3 => then_n ?_⟩))
    refine wp_ret ?_
    repeat first | refine then_ret ?_ | refine inb_ret ?_
    exact (ret_fr FF3 0 Tryz.results56 rfl ⟨rfl, MM3.below⟩)
  · refine wp_cond_false ((FF2.ev 0 rfl).trans (dec_f hs6)) ?_
    refine wp_skip ?_
    refine then_n ?_
    refine wp_seq (rg_c FF2 MM2 [(1, t_ (iN X.length)), (0, n_ (.slice none X.length X.length) (.cells (cn .u8 (List.replicate X.length 0)) 5))] 4 [] [] (⟨(vI (bs_size _)), (make_ok (t := 59) (e := 5) (p := (.tmp 8)) (q := (.tmp 8)) (by kernel_rfl) rfl rfl Tryz.underlying59 (by kernel_rfl) (by omega)), fun bl => fun _ _ FF4 MM4 => then_n ?_⟩))
    refine wp_seq (rg_c FF4 MM4 [(2, r_ (iN (min X.length X.length)) [(0, .cells (cn .u8 X) 5)])] 4 [] [] (⟨(copyStr_ok (p := .tmp 10) (q := .tmp 11) (t := 59) (tq := 9) (e := 5) (T := 5) (off := 0) (len := X.length) (X := X) (cs := cn .u8 (List.replicate X.length 0)) (i := 0) (by kernel_rfl) rfl rfl hX Tryz.underlying59 (by kernel_rfl) rfl (by rw [cn_size, List.length_replicate, Nat.zero_add]; exact Nat.le_refl _) (by rw [List.take_length]; exact setFrom_new8 (by rw [List.length_replicate]))), fun _ _ FF5 MM5 => then_n ?_⟩))
    refine wp_seq (rg_c FF5 MM5 [(1, w_ 1), (2, r_ (sB X) [(0, .cells (cn .u8 X) 5 (0, X.length))])] 4 [] [] (⟨by omega, (usRow_ok (t := 142) (u := 3) (e := 5) (i := 0) (x := .tmp 14) (y := .tmp 16) (by kernel_rfl) rfl rfl Tryz.underlying142 (by kernel_rfl) rfl (by omega) hX (by rw [cn_size]; exact Nat.le_refl _) (by omega) (fun j hj => cn_get _ _ _ hj)), fun _ _ FF6 MM6 => then_n ?_⟩))
    refine wp_ret ?_
    repeat first | refine then_ret ?_ | refine inb_ret ?_
    exact (ret_fr FF6 0 Tryz.results56 rfl ⟨rfl, MM6.below⟩)
set_option maxRecDepth 100000 in
theorem clone_any (X : List Nat) (hX : ∀ i, X.getD i 0 < 256) (hl : X.length ≤ 1000000) (w0 : World) :
    Calls Tryz.prog 35 #[sB X] w0 fun e w' => e = .returned (sB X) ∧ Below w0.heap.size w0 w' := by
  refine enter_fr Tryz.func35 rfl Tryz.ntmps35 (by simp) fun ac (FF : Fr 5 ac [(0, sB X)]) => ?_
  have MM := MemS.start w0
  refine wp_seq (rg_c FF MM [(0, t_ (sB []))] 3 [] [] (⟨(by kernel_rfl), fun _ _ FF1 MM1 => then_n ?_⟩))
  refine wp_seq (rg_c FF1 MM1 [(1, t_ (sB X))] 0 [2] [] (⟨(callP_of en_lclone (lclone_any X hX hl) _), fun _ _ FF2 MM2 => then_n ?_⟩))
  refine wp_ret ?_
  repeat first | refine then_ret ?_ | refine inb_ret ?_
  exact (ret_fr FF2 0 Tryz.results35 rfl ⟨rfl, MM2.below⟩)
set_option maxRecDepth 100000 in
theorem pseal_any {b m1 m2 m3 : Nat} {i : Bool} {t : Value} {f : Nat} {ks : Pairs} {K : List Nat} (hk : OkP 32 ks) (hK : BytesK 32 K) {pn : Notes} (hp_ : OkQ pn) {N Y : List Nat} (hN : BytesK 12 N) (hY : ∀ i, Y.getD i 0 < 256) (hYl : Y.length ≤ 900000) (hO : i = false → ∀ own, mget K ks = some own → own = K) (w0 : World) (H : Has w0 [(b, oC #[.bool i, t, .map (some m1), .map (some m2), .map (some m3), iN f] 73), (m1, KM ks), (m3, NM pn)]) (hD : Distinct [(b, oC #[.bool i, t, .map (some m1), .map (some m2), .map (some m3), iN f] 73), (m1, KM ks), (m3, NM pn)]) :
    Calls Tryz.prog 33 #[pT b, .agg (cn .u8 K), .agg (cn .u8 N), sB Y] w0 fun e w' => e = .returned (sB (boxN i K N ks Y)) ∧ TurnB [(m3, NM (noteP i K N ks Y pn))] w0 w' := by
  refine enter_fr Tryz.func33 rfl Tryz.ntmps33 (by simp) fun ac (FF : Fr 44 ac [(0, pT b), (1, .agg (cn .u8 K)), (2, .agg (cn .u8 N)), (3, sB Y)]) => ?_
  have MM : MemS (fun k => k < w0.heap.size ∧ ∀ x ∈ [(b, oC #[.bool i, t, .map (some m1), .map (some m2), .map (some m3), iN f] 73), (m1, KM ks), (m3, NM pn)], x.1 ≠ k) w0 w0 [(b, oC #[.bool i, t, .map (some m1), .map (some m2), .map (some m3), iN f] 73), (m1, KM ks), (m3, NM pn)] [] := MemS.startN H hD
  refine wp_seq (rg_c FF MM [(0, s_ 0 (.cells (cn .u8 K) 23)), (0, s_ 0 (.cells (cn .u8 N) 56)), (0, t_ (sB []))] 9 [] [1, 2] (⟨(by kernel_rfl), fun bk => ⟨(by kernel_rfl), fun bn => ⟨(by kernel_rfl), fun _ _ FF1 MM1 => then_n ?_⟩⟩⟩))
  refine wp_seq ?_
  cases hg : mget K ks with
  | none =>
    refine wp_seq (rg_c FF1 MM1 [(1, b_ 1), (0, u_ 1 (.bool false))] 9 [14] [] (⟨rfl, ((cn_size _ _).trans hK.1), (callP_B [2, 3] en_pshared rfl (fun w Hw => by have h0 := pshared_any hk hK w Hw (distinct_names rfl (distinct_at MM1.distinct (is := [2, 3]) rfl rfl)); rw [hg] at h0; exact h0)), fun _ _ FF2 MM2 => then_n ?_⟩))
    refine wp_cond_true (FF2.ev 0 rfl) ?_
    refine wp_seq (rg_c FF2 MM2 [(0, b_ 1), (0, b_ 0), (1, t_ (sB (sealN K N [] Y)))] 9 [] [] (⟨rfl, ((cn_size _ _).trans hK.1), rfl, ((cn_size _ _).trans hN.1), (callP_of en_Seal (seal_any K N ⟨hK.1, hK.2⟩ ⟨hN.1, hN.2⟩ [] Y (lit_lt (by kernel_rfl)) hY (by decide) (by omega)) _), fun _ _ FF3 MM3 => then_n ?_⟩))
    refine wp_ret ?_
    repeat first | refine then_ret ?_ | refine inb_ret ?_
    exact (ret_fr FF3 0 Tryz.results33 rfl (by rw [box_no hg, noteP_no hg]; exact ⟨rfl, MM3.turnB [(m3, NM pn)] H (List.forall_mem_cons.2 ⟨(List.mem_of_getElem? (i := 4) rfl), (fun _ h => (nomatch h))⟩) (List.forall_mem_cons.2 ⟨.inl (List.mem_of_getElem? (i := 2) rfl), (List.forall_mem_cons.2 ⟨.inl (List.mem_of_getElem? (i := 3) rfl), (List.forall_mem_cons.2 ⟨.inr ⟨_, (List.mem_of_getElem? (i := 0) rfl), rfl⟩, (fun _ h => (nomatch h))⟩)⟩)⟩)⟩))
  | some own =>
    refine wp_seq (rg_c FF1 MM1 [(1, b_ 1), (0, u_ 1 (.bool true))] 9 [14] [] (⟨rfl, ((cn_size _ _).trans hK.1), (callP_B [2, 3] en_pshared rfl (fun w Hw => by have h0 := pshared_any hk hK w Hw (distinct_names rfl (distinct_at MM1.distinct (is := [2, 3]) rfl rfl)); rw [hg] at h0; exact h0)), fun _ _ FF4 MM4 => then_n ?_⟩))
    refine wp_cond_false (FF4.ev 0 rfl) ?_
    refine wp_skip ?_
    refine then_n ?_
    refine wp_seq (rg_c FF4 MM4 [] 9 [9] [] (fun _ _ FF5 MM5 => then_n ?_))
    refine wp_seq ?_
    cases i with
    | false =>
      refine wp_seq (rg_c FF5 MM5 [(3, l_ 2 (.bool false))] 10 [23] [] (⟨rfl, rfl, fun _ _ FF6 MM6 => then_n ?_⟩))
      refine wp_cond_false (FF6.ev 0 rfl) ?_
      refine wp_skip ?_
      refine then_n ?_
      refine wp_seq (rg_dc 7 FF6 MM6 [(1, b_ 1), (0, u_ 1 (.agg (cn .u8 K))), (0, b_ 0), (1, t_ (sB (sealN K N [] Y)))] [] 9 [10] [] (⟨rfl, ((cn_size _ _).trans hK.1), (callP_B [2, 3] en_pKey rfl (fun w Hw => by have h0 := pKey_any hk hK w Hw (distinct_names rfl (distinct_at MM6.distinct (is := [2, 3]) rfl rfl)); rw [show ownN K ks = K by rw [ownN, hg]; exact hO rfl own hg] at h0; exact h0)), rfl, ((cn_size _ _).trans hN.1), (callP_of en_Seal (seal_any K N ⟨hK.1, hK.2⟩ ⟨hN.1, hN.2⟩ [] Y (lit_lt (by kernel_rfl)) hY (by decide) (by omega)) _), fun _ _ FF7 MM7 => then_n ?_⟩))
      refine wp_seq (rg_dc 10 FF7 MM7 [(3, l_ 2 (.map (some m3))), (0, b_ 1), (0, b_ 0), (1, f_ (.agg ((cn .u8 K) ++ (cn .u8 N) ++ (#[sB (sealN K N [] Y)] : Array Value)))), (1, t_ (sB Y))] [(0, r_ undef [(4, NM (mput (K, N, sealN K N [] Y) Y pn))])] 11 [] [] (⟨rfl, rfl, rfl, ((cn_size _ _).trans hK.1), rfl, ((cn_size _ _).trans hN.1), (build_ok (t := 111) (ps := #[(0, (.tmp 37)), (1, (.tmp 38)), (2, (.tmp 39))]) (by kernel_rfl) rfl (built_fits (pl := [(0, 32), (32, 12), (44, 1)]) (tot := 45) (n := 32) (by kernel_rfl) (by kernel_rfl) (ns := [12, 1]) ⟨rfl, (show (cn .u8 K).size = 32 from ((cn_size _ _).trans hK.1)), rfl, (show (cn .u8 N).size = 12 from ((cn_size _ _).trans hN.1)), rfl, rfl, rfl⟩ rfl)), (callP_of en_clone (clone_any Y hY (by omega)) _), (mapPut_ok (t := 71) (m := (.tmp 36)) (y := (.tmp 40)) (z := (.tmp 42)) (b := m3) (i := 4) (kf := boxV) (vf := noteV) (l := pn) (x := (K, N, sealN K N [] Y)) (v := Y) (by kernel_rfl) rfl rfl rfl Tryz.underlying71 box_law (fun p hp => (hp_.1 p hp).1) hp_.2 ⟨hK, hN, (sealN_lt _ _ _ hY), (by rw [sealN_len]; omega)⟩ rfl), fun _ _ FF8 MM8 => then_n ?_⟩))
      refine wp_seq (rg_c FF8 MM8 [] 11 [] [] (fun _ _ FF9 MM9 => then_n ?_))
      refine wp_ret ?_
      repeat first | refine then_ret ?_ | refine inb_ret ?_
      exact (ret_fr FF9 0 Tryz.results33 rfl (by rw [noteP_yes hg, box_real hg]; exact ⟨rfl, MM9.turnB [(m3, NM (mput (K, N, sealN K N [] Y) Y pn))] H (List.forall_mem_cons.2 ⟨(List.mem_of_getElem? (i := 4) rfl), (fun _ h => (nomatch h))⟩) (List.forall_mem_cons.2 ⟨.inl (List.mem_of_getElem? (i := 2) rfl), (List.forall_mem_cons.2 ⟨.inl (List.mem_of_getElem? (i := 3) rfl), (List.forall_mem_cons.2 ⟨.inr ⟨_, (List.mem_of_getElem? (i := 0) rfl), rfl⟩, (fun _ h => (nomatch h))⟩)⟩)⟩)⟩))
    | true =>
      refine wp_seq (rg_c FF5 MM5 [(3, l_ 2 (.bool true))] 10 [23] [] (⟨rfl, rfl, fun _ _ FF10 MM10 => then_n ?_⟩))
      refine wp_cond_true (FF10.ev 0 rfl) ?_
      refine rg_c FF10 MM10 [(1, t_ (iN Y.length)), (0, t_ (sB (List.replicate Y.length 0)))] 9 [9] [] (⟨(vI (bs_size _)), (callP_of en_repeat (repeat0_any Y.length (by omega)) _), fun _ _ FF11 MM11 => ?_⟩)
      refine then_n ?_
      refine wp_seq (rg_dc 7 FF11 MM11 [(1, b_ 1), (0, u_ 1 (.agg (cn .u8 (ownN K ks)))), (0, b_ 0), (1, t_ (sB (sealN (ownN K ks) N [] (List.replicate Y.length 0))))] [] 9 [10] [] (⟨rfl, ((cn_size _ _).trans hK.1), (callP_B [2, 3] en_pKey rfl (fun w Hw => pKey_any hk hK w Hw (distinct_names rfl (distinct_at MM11.distinct (is := [2, 3]) rfl rfl)))), rfl, ((cn_size _ _).trans hN.1), (callP_of en_Seal (seal_any (ownN K ks) N ⟨(own_ok hk hK).1, (own_ok hk hK).2⟩ ⟨hN.1, hN.2⟩ [] (List.replicate Y.length 0) (lit_lt (by kernel_rfl)) (rep0_lt (by decide)) (by decide) (by rw [List.length_replicate]; omega)) _), fun _ _ FF12 MM12 => then_n ?_⟩))
      refine wp_seq (rg_dc 10 FF12 MM12 [(3, l_ 2 (.map (some m3))), (0, b_ 1), (0, b_ 0), (1, f_ (.agg ((cn .u8 K) ++ (cn .u8 N) ++ (#[sB (sealN (ownN K ks) N [] (List.replicate Y.length 0))] : Array Value)))), (1, t_ (sB Y))] [(0, r_ undef [(4, NM (mput (K, N, sealN (ownN K ks) N [] (List.replicate Y.length 0)) Y pn))])] 11 [] [] (⟨rfl, rfl, rfl, ((cn_size _ _).trans hK.1), rfl, ((cn_size _ _).trans hN.1), (build_ok (t := 111) (ps := #[(0, (.tmp 37)), (1, (.tmp 38)), (2, (.tmp 39))]) (by kernel_rfl) rfl (built_fits (pl := [(0, 32), (32, 12), (44, 1)]) (tot := 45) (n := 32) (by kernel_rfl) (by kernel_rfl) (ns := [12, 1]) ⟨rfl, (show (cn .u8 K).size = 32 from ((cn_size _ _).trans hK.1)), rfl, (show (cn .u8 N).size = 12 from ((cn_size _ _).trans hN.1)), rfl, rfl, rfl⟩ rfl)), (callP_of en_clone (clone_any Y hY (by omega)) _), (mapPut_ok (t := 71) (m := (.tmp 36)) (y := (.tmp 40)) (z := (.tmp 42)) (b := m3) (i := 4) (kf := boxV) (vf := noteV) (l := pn) (x := (K, N, sealN (ownN K ks) N [] (List.replicate Y.length 0))) (v := Y) (by kernel_rfl) rfl rfl rfl Tryz.underlying71 box_law (fun p hp => (hp_.1 p hp).1) hp_.2 ⟨hK, hN, (sealN_lt _ _ _ (rep0_lt (by decide))), (by rw [sealN_len, List.length_replicate]; omega)⟩ rfl), fun _ _ FF13 MM13 => then_n ?_⟩))
      refine wp_seq (rg_c FF13 MM13 [] 11 [] [] (fun _ _ FF14 MM14 => then_n ?_))
      refine wp_ret ?_
      repeat first | refine then_ret ?_ | refine inb_ret ?_
      exact (ret_fr FF14 0 Tryz.results33 rfl (by rw [noteP_yes hg, box_ideal hg]; exact ⟨rfl, MM14.turnB [(m3, NM (mput (K, N, sealN (ownN K ks) N [] (List.replicate Y.length 0)) Y pn))] H (List.forall_mem_cons.2 ⟨(List.mem_of_getElem? (i := 4) rfl), (fun _ h => (nomatch h))⟩) (List.forall_mem_cons.2 ⟨.inl (List.mem_of_getElem? (i := 2) rfl), (List.forall_mem_cons.2 ⟨.inl (List.mem_of_getElem? (i := 3) rfl), (List.forall_mem_cons.2 ⟨.inr ⟨_, (List.mem_of_getElem? (i := 0) rfl), rfl⟩, (fun _ h => (nomatch h))⟩)⟩)⟩)⟩))
end Go.Proofs.YtdjpacgjhcidpabGreatDoor
