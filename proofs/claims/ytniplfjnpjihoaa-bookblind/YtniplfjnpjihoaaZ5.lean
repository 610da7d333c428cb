/- Several texts in one: Package aead: the walks. Package book: maps; Shared, Key, ID, Share, ShareID. What strings.Builder's own text does: a pointer held against nil and against itself, turned to a bare pointer and back; a row's bytes as a string. Package book: Seal. Package book: Open, Forged, New. The laws of books: keys by small numbers, books of nil. The laws of books: wakes. Calls that are few and short. -/
import Derived.Test.YtniplfjnpjihoaaZ4
import Derived.Test.YtniplfjnpjihoaaZ3
import Derived.ChangeMaps4
import Derived.Laws.Externs
import Derived.Shelf.Strings.Repeat
namespace Go.Proofs.Ytniplfjnpjihoaa
open Go.RowKit
theorem en_Seal : Enters Try.prog 30 := fun args w => by simp [go_sem]
theorem en_Open : Enters Try.prog 40 := fun args w => by simp [go_sem]
theorem en_atag : Enters Try.prog 44 := fun args w => by simp [go_sem]
theorem en_missing : Enters Try.prog 61 := fun args w => by simp [go_sem]
theorem en_length : Enters Try.prog 62 := fun args w => by simp [go_sem]
theorem en_Mask : Enters Try.prog 43 := fun args w => by simp [go_sem]
theorem en_Block : Enters Try.prog 59 := fun args w => by simp [go_sem]
theorem en_Sum : Enters Try.prog 60 := fun args w => by simp [go_sem]
set_option maxRecDepth 100000 in
theorem missing_any (X : List Nat) (_hX : ∀ i, X.getD i 0 < 256) (w0 : World) :
    Calls Try.prog 61 #[sB X] w0 fun e w' => e = .returned (sB (missN X)) ∧ Below w0.heap.size w0 w' := by
  refine enter_fr Try.func61 rfl Try.ntmps61 (by simp) fun ac (FF : Fr 12 ac [(0, sB X)]) => ?_
  have MM := MemS.start w0
  refine wp_seq (rg_c FF MM [(0, t_ (sB []))] 3 [] [] (⟨(by kernel_rfl), fun _ _ FF1 MM1 => then_n ?_⟩))
  refine wp_seq (rg_c FF1 MM1 [(1, t_ (iN X.length))] 4 [] [0] (⟨(vI (bs_size _)), by decide, fun _ _ FF2 MM2 => then_n ?_⟩))
  refine wp_seq ?_
  refine wp_seq (rg_c FF2 MM2 [] 4 [8] [] (fun _ _ FF3 MM3 => then_n ?_))
  by_cases hs8 : (X.length % 16) = 0
  · refine wp_cond_true ((FF3.ev 0 rfl).trans (dec_t hs8)) ?_
    refine wp_seq (rg_c FF3 MM3 [(0, t_ (sB (missN X)))] 4 [] [] (⟨(Eq.trans (show _ = sB [] by kernel_rfl) (vS (by rw [missN, hs8]; rfl))), fun _ _ FF4 MM4 => then_n ?_⟩))
    refine wp_ret ?_
    repeat first | refine then_ret ?_ | refine inb_ret ?_
    exact (ret_fr FF4 0 Try.results61 rfl ⟨rfl, MM4.below⟩)
  · refine wp_cond_false ((FF3.ev 0 rfl).trans (dec_f hs8)) ?_
    refine wp_skip ?_
    refine then_n ?_
    refine wp_seq (rg_c FF3 MM3 [(2, t_ (sB (missN X)))] 4 [] [] (⟨by omega, by omega, (Nat.zero_le _), (by show _ ≤ 15; omega), (vS2 ((bs_extract _ _ _).trans (congrArg bs ((noughts_cut (by omega)).trans (by rw [missN, Nat.mod_eq_of_lt (show 16 - X.length % 16 < 16 by omega)]))))), fun _ _ FF5 MM5 => then_n ?_⟩))
    refine wp_ret ?_
    repeat first | refine then_ret ?_ | refine inb_ret ?_
    exact (ret_fr FF5 0 Try.results61 rfl ⟨rfl, MM5.below⟩)
set_option maxRecDepth 100000 in
theorem length_any (X : List Nat) (hl : X.length < 4611686018427387904) (w0 : World) :
    Calls Try.prog 62 #[sB X] w0 fun e w' => e = .returned (sB (leB 8 X.length)) ∧ Below w0.heap.size w0 w' := by
  refine enter_fr Try.func62 rfl Try.ntmps62 (by simp) fun ac (FF : Fr 20 ac [(0, sB X)]) => ?_
  have MM := MemS.start w0
  refine wp_seq (rg_c FF MM [(0, t_ (sB []))] 3 [] [] (⟨(by kernel_rfl), fun _ _ FF1 MM1 => then_n ?_⟩))
  refine wp_seq (rg_c FF1 MM1 [(0, s_ 0 (.cells (cn .u8 (List.replicate 8 0)) 158))] 4 [] [] (⟨(by kernel_rfl), fun bo => fun _ wd2 FF2 MM2 => then_n ?_⟩))
  have MMr4 : MemS (fun k => k < w0.heap.size) w0 wd2 [(bo, .cells (cn .u8 (genL 8 (fun i => X.length / 256 ^ i % 256) 0)) 158)] [] := by rw [← genL_zero 8 (fun i => X.length / 256 ^ i % 256)]; exact MM2
  refine wp_seq ?_
  refine wp_seq (rg_c FF2 MMr4 [] 6 [] [] (fun _ _ FF3 MM3 => then_n ?_))
  refine wp_for (fun a' w' => ∃ j : Nat, j ≤ 8 ∧ Fr 20 a' [(5, iN j), (3, pT bo), (2, sB []), (0, sB X)] ∧ MemS (fun k => k < w0.heap.size) w0 w' [(bo, .cells (cn .u8 (genL 8 (fun i => X.length / 256 ^ i % 256) j)) 158)] []) (fun a' _ => (8 - cnt 5 a').toNat) ⟨0, by omega, FF3.pick [0, 1, 2, 3], MM3⟩ ?_
  rintro ac4 wd4 ⟨j, hj, FF4, MM4⟩
  have hcj := cnt_of (FF4.get 0 rfl)
  refine rg_c FF4 MM4 [] 7 [] [] (fun _ wd5 FF5 MM5 => ?_)
  by_cases hltj : j < 8
  · skip
    refine then_n (.inl ⟨(FF5.ev 0 rfl).trans (dec_t hltj), ?_⟩)
    refine wp_seq (rg_c FF5 MM5 [] 6 [] [] (fun _ _ FF6 MM6 => then_n ?_))
    refine rg_c FF6 MM6 [(2, t_ (iN X.length)), (0, w_ 1), (4, w_ 1), (0, s_ 0 (.cells (cn .u8 (genL 8 (fun i => X.length / 256 ^ i % 256) (j + 1))) 158))] 6 [] [] (⟨(vI (bs_size _)), by omega, by omega, (by show _ ≤ 64; omega), by omega, rfl, (by rw [cn_size, (genL_len _ _ _)]; omega), (.inl rfl), ((cn_set _ _ _ _).trans (congrArg _ (genL_step _ _ j (by omega) (by rw [Nat.pow_mul])))), fun _ _ FF7 MM7 => ?_⟩)
    refine inb_n (then_n ?_)
    refine rg_c FF7 MM7 [] 6 [] [] (⟨by omega, fun _ _ FF8 MM8 => ?_⟩)
    have hdj := cnt_of (FF8.get 0 rfl)
    refine then_n ⟨⟨j + 1, by omega, FF8.pick [0, 2, 3, 4], MM8⟩, ?_⟩
    rw [hcj, hdj]; omega
  · skip
    refine then_n (.inr ⟨(FF5.ev 0 rfl).trans (dec_f hltj), ?_⟩)
    obtain rfl : j = 8 := by omega
    have MMl : MemS (fun k => k < w0.heap.size) w0 wd5 [(bo, .cells (cn .u8 (leB 8 X.length)) 158)] [] := by rw [← gen_leB8 8 X.length]; exact MM5
    refine then_n ?_
    refine wp_seq (rg_c FF5 MMl [(1, l_ 0 (sB (leB 8 X.length)))] 6 [] [] (⟨by decide, by decide, by decide, rfl, (str_all (leB_len _ _) (leB_lt 8 X.length)), fun _ _ FF9 MM9 => then_n ?_⟩))
    refine wp_ret ?_
    repeat first | refine then_ret ?_ | refine inb_ret ?_
    exact (ret_fr FF9 0 Try.results62 rfl ⟨rfl, MM9.below⟩)
theorem six_lt {A B C D E F : List Nat} (h1 : ∀ i, A.getD i 0 < 256) (h2 : ∀ i, B.getD i 0 < 256) (h3 : ∀ i, C.getD i 0 < 256) (h4 : ∀ i, D.getD i 0 < 256) (h5 : ∀ i, E.getD i 0 < 256) (h6 : ∀ i, F.getD i 0 < 256) : ∀ V ∈ [A, B, C, D, E, F], ∀ i, V.getD i 0 < 256 := fun V hV => by
  simp only [List.mem_cons, List.not_mem_nil, or_false] at hV
  rcases hV with rfl | rfl | rfl | rfl | rfl | rfl <;> assumption
theorem six_at (A B C D E F : List Nat) : ∀ j, j < [A, B, C, D, E, F].length → (#[sB A, sB B, sB C, sB D, sB E, sB F] : Array Value)[j]? = some (sB ([A, B, C, D, E, F].getD j [])) := fun j h => by
  have : j = 0 ∨ j = 1 ∨ j = 2 ∨ j = 3 ∨ j = 4 ∨ j = 5 := by simp at h; omega
  rcases this with rfl | rfl | rfl | rfl | rfl | rfl <;> rfl
set_option maxRecDepth 100000 in
theorem atag_any (K N : List Nat) (hK : Bytes 32 K) (hN : Bytes 12 N) (E C : List Nat) (hE : ∀ i, E.getD i 0 < 256) (hC : ∀ i, C.getD i 0 < 256) (hl : E.length < 4611686018427387904) (hl2 : C.length < 4611686018427387904) (w0 : World) :
    Calls Try.prog 44 #[.agg (cn .u8 K), .agg (cn .u8 N), sB E, sB C] w0 fun e w' => e = .returned (.agg (cn .u8 (tagA K N E C))) ∧ Below w0.heap.size w0 w' := by
  refine enter_fr Try.func44 rfl Try.ntmps44 (by simp) fun ac (FF : Fr 30 ac [(0, .agg (cn .u8 K)), (1, .agg (cn .u8 N)), (2, sB E), (3, sB C)]) => ?_
  have MM := MemS.start w0
  refine wp_seq (rg_c FF MM [(0, s_ 0 (.cells (cn .u8 K) 42)), (0, s_ 0 (.cells (cn .u8 N) 45)), (0, s_ 0 (.cells (cn .u8 (List.replicate 16 0)) 109))] 9 [] [0, 1] (⟨(by kernel_rfl), fun bk => ⟨(by kernel_rfl), fun bn => ⟨(by kernel_rfl), fun bt => fun _ _ FF1 MM1 => then_n ?_⟩⟩⟩))
  refine wp_seq (wp_region_list ?_)
  refine rp_c 4 FF1 MM1 [(0, b_ 2), (0, b_ 1), (0, t_ (sB (blockN K 0 N))), (0, t_ (sB (onceN K N)))] 4 [8, 13] [] (⟨rfl, ((cn_size _ _).trans hK.len), rfl, ((cn_size _ _).trans hN.len), (callP_of en_Block (Block_any K N 0 ⟨hK.len, hK.lt⟩ (by decide) ⟨hN.len, hN.lt⟩) _), (Nat.zero_le _), (by rw [bs_size, show (blockN K 0 N).length = 64 from (blockW_len _)]; omega), (vS2 ((bs_extract _ _ _).trans (congrArg bs (List.drop_zero ..)))), fun _ _ FF2 MM2 => ?_⟩)
  refine st_new [8, 2, 3, 14] FF2 MM2 (d := 14) (bytes_ok (e := 5) (x := (.tmp 13)) (by kernel_rfl) rfl (onceN_bytes K N).lt Try.underlying9 Try.underlying73 Try.underlying5) rfl rfl (by decide) fun ac4 wd4 bz cz3 FF4 MM4 => ?_
  refine rp_c 4 FF4 MM4 [(1, l_ 0 (.agg (cn .u8 (onceN K N)))), (0, s_ 0 (.cells (cn .u8 (List.replicate 32 0)) 42)), (0, b_ 0)] 9 [9] [] (⟨(by rw [(onceN_bytes K N).len]; decide), rfl, (part_rep _ _), ((cn_size _ _).trans (onceN_bytes K N).len), (by kernel_rfl), fun bo => ⟨rfl, ((cn_size _ _).trans (List.length_replicate ..)), ((cn_size _ _).trans (onceN_bytes K N).len), (cn_one _ _), rfl, fun _ _ FF5 MM5 => ?_⟩⟩)
  refine wpl_nil (then_n ?_)
  refine wp_seq (rg_draw FF5 MM5 [.inl (.agg (cn .u8 (onceN K N))), .inl (sB E), .inl (sB E), .inl (sB (missN E)), .inl (sB C), .inl (sB C), .inl (sB (missN C)), .inl (sB E), .inl (sB (leB 8 E.length)), .inl (sB C), .inl (sB (leB 8 C.length)), .inr (oC #[sB E, sB (missN E), sB C, sB (missN C), sB (leB 8 E.length), sB (leB 8 C.length)] 9, fun b => .slice (some ⟨b, 0, none⟩) 6 6), .inl (.agg (cn .u8 (tagA K N E C)))] [] [b_ 0, o_, o_, t_ (sB (missN E)), o_, o_, t_ (sB (missN C)), o_, t_ (sB (leB 8 E.length)), o_, t_ (sB (leB 8 C.length)), o_, u_ 1 (.agg (cn .u8 (tagA K N E C)))] [b_ 2] [9, 8] (fun nb => [bo = bo, (cn .u8 (onceN K N)).size = 32, CallP Try.prog 61 [sB E] [] (sB (missN E)), CallP Try.prog 61 [sB C] [] (sB (missN C)), CallP Try.prog 62 [sB E] [] (sB (leB 8 E.length)), CallP Try.prog 62 [sB C] [] (sB (leB 8 C.length)), CallP Try.prog 60 [.agg (cn .u8 (onceN K N)), .slice (some ⟨(nb 11), 0, none⟩) 6 6] [((nb 11), oC #[sB E, sB (missN E), sB C, sB (missN C), sB (leB 8 E.length), sB (leB 8 C.length)] 9), (bo, .cells (cn .u8 (onceN K N)) 42), (bz, .cells (cn .u8 ((onceN K N) ++ List.replicate cz3 0)) 5 ((onceN K N).length + cz3, (onceN K N).length + cz3 + 1)), (bt, .cells (cn .u8 (List.replicate 16 0)) 109), (bn, .cells (cn .u8 N) 45), (bk, .cells (cn .u8 K) 42)] (.agg (cn .u8 (tagA K N E C)))]) (fun nb Kt => bt = bt ∧ (cn .u8 (List.replicate 16 0)).size = 16 ∧ (cn .u8 (tagA K N E C)).size = 16 ∧ (cn .u8 (tagA K N E C)).all (·.oneCell') = true ∧ (0, 0).2 = 0 ∧ Kt [(9, pT bo), (8, pT bt)] [(bo, .cells (cn .u8 (onceN K N)) 42), (bz, .cells (cn .u8 ((onceN K N) ++ List.replicate cz3 0)) 5 ((onceN K N).length + cz3, (onceN K N).length + cz3 + 1)), (bt, .cells (cn .u8 (tagA K N E C)) 109), (bn, .cells (cn .u8 N) 45), (bk, .cells (cn .u8 K) 42)]) (by kernel_rfl) (by kernel_rfl) (by kernel_rfl) (fun _ => by kernel_rfl) (fun _ _ => by kernel_rfl) trivial (fun nb => ⟨rfl, ((cn_size _ _).trans (onceN_bytes K N).len), (callP_of en_missing (missing_any E hE) _), (callP_of en_missing (missing_any C hC) _), (callP_of en_length (length_any E (by omega)) _), (callP_of en_length (length_any C (by omega)) _), ⟨en_Sum, fun w H => by have h0 := sum_any _ (onceN_bytes K N) [E, missN E, C, missN C, leB 8 E.length, leB 8 C.length] (six_lt hE (missN_lt E) hC (missN_lt C) (leB_lt 8 _) (leB_lt 8 _)) (by simp) _ 6 _ _ _ (six_at _ _ _ _ _ _) w (H 0 _ rfl); rw [tagT_flat] at h0; exact h0⟩, trivial⟩) (fun nb => ⟨rfl, ((cn_size _ _).trans (List.length_replicate ..)), ((cn_size _ _).trans (tagA_len _ _ _ _)), (cn_one _ _), rfl, fun _ _ FF6 MM6 => then_n ?_⟩))
  refine wp_ret ?_
  repeat first | refine then_ret ?_ | refine inb_ret ?_
  exact (retc FF6 MM6 (k := 16) (i := 2) (j := 1) Try.results44 rfl rfl Try.underlying109 rfl (by kernel_rfl) ((cn_size _ _).trans (tagA_len _ _ _ _)) ⟨rfl, MM6.below⟩)
set_option maxRecDepth 100000 in
theorem seal_any (K N : List Nat) (hK : Bytes 32 K) (hN : Bytes 12 N) (E X : List Nat) (hE : ∀ i, E.getD i 0 < 256) (hX : ∀ i, X.getD i 0 < 256) (hl : E.length < 4611686018427387904) (hl2 : X.length < 4611686018427387904) (w0 : World) :
    Calls Try.prog 30 #[.agg (cn .u8 K), .agg (cn .u8 N), sB E, sB X] w0 fun e w' => e = .returned (sB (sealN K N E X)) ∧ Below w0.heap.size w0 w' := by
  refine enter_fr Try.func30 rfl Try.ntmps30 (by simp) fun ac (FF : Fr 24 ac [(0, .agg (cn .u8 K)), (1, .agg (cn .u8 N)), (2, sB E), (3, sB X)]) => ?_
  have MM := MemS.start w0
  refine wp_seq (rg_c FF MM [(0, s_ 0 (.cells (cn .u8 K) 42)), (0, s_ 0 (.cells (cn .u8 N) 45)), (0, t_ (sB []))] 9 [] [0, 1] (⟨(by kernel_rfl), fun bk => ⟨(by kernel_rfl), fun bn => ⟨(by kernel_rfl), fun _ _ FF1 MM1 => then_n ?_⟩⟩⟩))
  refine wp_seq (rg_c FF1 MM1 [(0, b_ 1), (0, b_ 0), (1, t_ (sB (maskN K 1 N X)))] 9 [9] [3] (⟨rfl, ((cn_size _ _).trans hK.len), rfl, ((cn_size _ _).trans hN.len), (callP_of en_Mask (Mask_any K N X 1 ⟨hK.len, hK.lt⟩ (by decide) ⟨hN.len, hN.lt⟩ hX) _), fun _ _ FF2 MM2 => then_n ?_⟩))
  refine wp_seq (rg_c FF2 MM2 [(0, b_ 1), (0, b_ 0), (2, t_ (.agg (cn .u8 (tagA K N E (maskN K 1 N X))))), (0, s_ 0 (.cells (cn .u8 (List.replicate 16 0)) 109)), (0, b_ 0)] 11 [] [2] (⟨rfl, ((cn_size _ _).trans hK.len), rfl, ((cn_size _ _).trans hN.len), (callP_of en_atag (atag_any K N ⟨hK.len, hK.lt⟩ ⟨hN.len, hN.lt⟩ E (maskN K 1 N X) hE (maskN_lt _ _ _ _ hX) (by omega) (by rw [maskN_len]; omega)) _), (by kernel_rfl), fun bt => ⟨rfl, ((cn_size _ _).trans (List.length_replicate ..)), ((cn_size _ _).trans (tagA_len _ _ _ _)), (cn_one _ _), rfl, fun _ _ FF3 MM3 => then_n ?_⟩⟩))
  refine wp_seq (rg_c FF3 MM3 [(2, l_ 0 (sB (tagA K N E (maskN K 1 N X)))), (0, t_ (sB (sealN K N E X)))] 11 [] [] (⟨by decide, by decide, by decide, rfl, (str_all (tagA_len _ _ _ _) (tagA_lt _ _ _ _)), (by rw [bs_size, bs_size, maskN_len, tagA_len]; omega), (vS2 (bs_app _ _)), fun _ _ FF4 MM4 => then_n ?_⟩))
  refine wp_ret ?_
  repeat first | refine then_ret ?_ | refine inb_ret ?_
  exact (ret_fr FF4 0 Try.results30 rfl ⟨rfl, MM4.below⟩)
set_option maxRecDepth 100000 in
theorem open_short (K N : List Nat) (_hK : Bytes 32 K) (_hN : Bytes 12 N) (E Z : List Nat) (_hE : ∀ i, E.getD i 0 < 256) (_hZ : ∀ i, Z.getD i 0 < 256) (_hl : E.length < 4611686018427387904) (hl2 : Z.length < 4611686018427387904) (h16 : Z.length < 16) (w0 : World) :
    Calls Try.prog 40 #[.agg (cn .u8 K), .agg (cn .u8 N), sB E, sB Z] w0 fun e w' => e = .returned (.tuple #[sB [], .bool false]) ∧ Below w0.heap.size w0 w' := by
  refine enter_fr Try.func40 rfl Try.ntmps40 (by simp) fun ac (FF : Fr 38 ac [(0, .agg (cn .u8 K)), (1, .agg (cn .u8 N)), (2, sB E), (3, sB Z)]) => ?_
  have MM := MemS.start w0
  refine wp_seq (rg_c FF MM [(0, s_ 0 (.cells (cn .u8 K) 42)), (0, s_ 0 (.cells (cn .u8 N) 45)), (0, t_ (sB []))] 9 [9] [0, 1] (⟨(by kernel_rfl), fun bk => ⟨(by kernel_rfl), fun bn => ⟨(by kernel_rfl), fun _ _ FF1 MM1 => then_n ?_⟩⟩⟩))
  refine wp_seq (rg_c FF1 MM1 [(1, t_ (iN Z.length)), (0, u_ 4 (.int .i64 (((Z.length : Nat) : Int) - 16 : Int)))] 11 [] [] (⟨(vI (bs_size _)), by omega, by omega, (vZ (by omega)), fun _ _ FF2 MM2 => then_n ?_⟩))
  refine wp_seq ?_
  refine wp_seq (rg_c FF2 MM2 [(1, w_ 6)] 11 [17] [] (⟨by omega, fun _ _ FF3 MM3 => then_n ?_⟩))
  refine wp_cond_true (FF3.ev 0 rfl) ?_
  refine wp_seq (rg_c FF3 MM3 [(0, t_ (sB []))] 11 [] [] (⟨(by kernel_rfl), fun _ _ FF4 MM4 => then_n ?_⟩))
  refine wp_ret ?_
  repeat first | refine then_ret ?_ | refine inb_ret ?_
  exact (ret_tup2 FF4 1 0 Try.results40 rfl rfl ⟨rfl, MM4.below⟩)
set_option maxRecDepth 100000 in
theorem open_yes (K N : List Nat) (hK : Bytes 32 K) (hN : Bytes 12 N) (E Z : List Nat) (hE : ∀ i, E.getD i 0 < 256) (hZ : ∀ i, Z.getD i 0 < 256) (hl : E.length < 4611686018427387904) (hl2 : Z.length < 4611686018427387904) (h16 : 16 ≤ Z.length) (ho : opensN K N E Z) (w0 : World) :
    Calls Try.prog 40 #[.agg (cn .u8 K), .agg (cn .u8 N), sB E, sB Z] w0 fun e w' => e = .returned (.tuple #[sB (plainN K N Z), .bool true]) ∧ Below w0.heap.size w0 w' := by
  refine enter_fr Try.func40 rfl Try.ntmps40 (by simp) fun ac (FF : Fr 38 ac [(0, .agg (cn .u8 K)), (1, .agg (cn .u8 N)), (2, sB E), (3, sB Z)]) => ?_
  have MM := MemS.start w0
  refine wp_seq (rg_c FF MM [(0, s_ 0 (.cells (cn .u8 K) 42)), (0, s_ 0 (.cells (cn .u8 N) 45)), (0, t_ (sB []))] 9 [9] [0, 1] (⟨(by kernel_rfl), fun bk => ⟨(by kernel_rfl), fun bn => ⟨(by kernel_rfl), fun _ _ FF1 MM1 => then_n ?_⟩⟩⟩))
  refine wp_seq (rg_c FF1 MM1 [(1, t_ (iN Z.length))] 11 [] [] (⟨(vI (bs_size _)), by omega, by omega, fun _ _ FF2 MM2 => then_n ?_⟩))
  refine wp_seq ?_
  refine wp_seq (rg_c FF2 MM2 [(1, w_ 3)] 11 [17] [] (⟨by omega, fun _ _ FF3 MM3 => then_n ?_⟩))
  refine wp_cond_false (FF3.ev 0 rfl) ?_
  refine wp_skip ?_
  refine then_n ?_
  have hdl : (Z.drop (Z.length - 16)).length = 16 := by simp; omega
  refine wp_seq (rg_draw2 FF3 MM3 [.inl (sB Z), .inl (iN (Z.length - 16)), .inl (sB (Z.take (Z.length - 16))), .inl (sB Z), .inl (iN (Z.length - 16)), .inl (sB (Z.drop (Z.length - 16))), .inr (fun c => .cells (cn .u8 ((Z.drop (Z.length - 16)) ++ List.replicate c 0)) 5 ((Z.drop (Z.length - 16)).length + c, (Z.drop (Z.length - 16)).length + c + 1), fun b c => .slice (some ⟨b, 0, none⟩) ((Z.drop (Z.length - 16)).length) ((Z.drop (Z.length - 16)).length + c)), .inr (fun c => .cells (cn .u8 ((Z.drop (Z.length - 16)) ++ List.replicate c 0)) 5 ((Z.drop (Z.length - 16)).length + c, (Z.drop (Z.length - 16)).length + c + 1), fun b c => pT b), .inl (.agg (cn .u8 (Z.drop (Z.length - 16)))), .inr (fun _ => .cells (cn .u8 (List.replicate 16 0)) 109, fun b _ => pT b), .inl (sB (Z.take (Z.length - 16)))] [9] [o_, o_, t_ (sB (Z.take (Z.length - 16))), o_, o_, t_ (sB (Z.drop (Z.length - 16))), y_, g_ 6, l_ 0 (.agg (cn .u8 (Z.drop (Z.length - 16)))), o_, o_] [b_ 0] [10, 9, 8, 5, 4, 2, 3, 12, 11] (fun nb cp => [0 ≤ (Z.length - 16), (Z.length - 16) ≤ (bs Z).size, Value.string ((bs Z).extract 0 (Z.length - 16)) = sB (Z.take (Z.length - 16)), (Z.length - 16) ≤ (bs Z).size, 0 ≤ (bs Z).size, Value.string ((bs Z).extract (Z.length - 16) (bs Z).size) = sB (Z.drop (Z.length - 16)), RunB Try.prog [(23, sB (Z.drop (Z.length - 16))), (17, .bool false), (10, iN (Z.length - 16)), (9, .bool false), (8, sB []), (5, pT bn), (4, pT bk), (2, sB E), (3, sB Z)] [(bn, .cells (cn .u8 N) 45), (bk, .cells (cn .u8 K) 42)] (opAt Try.f40 4 6) (fun c => .cells (cn .u8 ((Z.drop (Z.length - 16)) ++ List.replicate c 0)) 5 ((Z.drop (Z.length - 16)).length + c, (Z.drop (Z.length - 16)).length + c + 1)) (fun b c => .slice (some ⟨b, 0, none⟩) ((Z.drop (Z.length - 16)).length) ((Z.drop (Z.length - 16)).length + c)), 16 ≤ (Z.drop (Z.length - 16)).length, pT (nb 6) = pT (nb 6), Obj.cells (cn .u8 ((Z.drop (Z.length - 16)) ++ List.replicate (cp 6) 0)) 5 ((Z.drop (Z.length - 16)).length + (cp 6), (Z.drop (Z.length - 16)).length + (cp 6) + 1) = .cells (cn .u8 ((Z.drop (Z.length - 16)) ++ List.replicate (cp 6) 0)) 5 ((Z.drop (Z.length - 16)).length + (cp 6), (Z.drop (Z.length - 16)).length + (cp 6) + 1), (nb 7) = (nb 7), PartAt (cn .u8 ((Z.drop (Z.length - 16)) ++ List.replicate (cp 7) 0)) 0 (cn .u8 (Z.drop (Z.length - 16))), (cn .u8 (Z.drop (Z.length - 16))).size = 16]) (fun nb cp Kt => (nb 9) = (nb 9) ∧ (cn .u8 (List.replicate 16 0)).size = 16 ∧ (cn .u8 (Z.drop (Z.length - 16))).size = 16 ∧ (cn .u8 (Z.drop (Z.length - 16))).all (·.oneCell') = true ∧ (0, 0).2 = 0 ∧ Kt [(11, sB (Z.take (Z.length - 16))), (12, pT (nb 9)), (10, iN (Z.length - 16)), (9, .bool false), (8, sB []), (5, pT bn), (4, pT bk), (2, sB E), (3, sB Z)] [((nb 9), .cells (cn .u8 (Z.drop (Z.length - 16))) 109), (bn, .cells (cn .u8 N) 45), (bk, .cells (cn .u8 K) 42)]) (by kernel_rfl) (by kernel_rfl) (by kernel_rfl) (fun _ _ => by kernel_rfl) (fun _ _ _ => by kernel_rfl) ⟨⟨_, rfl⟩, rfl, trivial⟩ (by kernel_rfl) (fun nb cp => ⟨(Nat.zero_le _), (by simp only [bs_size]; omega), (vS2 ((bs_extract _ _ _).trans (congrArg bs (List.drop_zero ..)))), (by simp only [bs_size]; omega), (Nat.zero_le _), (vS2 (bs_from _ _)), (bytes_ok (e := 5) (x := (.tmp 23)) (by kernel_rfl) rfl (drop_lt hZ) Try.underlying9 Try.underlying73 Try.underlying5), (by rw [hdl]; decide), rfl, rfl, rfl, (part_rep _ _), ((cn_size _ _).trans hdl), trivial⟩) (fun nb cp => ⟨rfl, ((cn_size _ _).trans (List.length_replicate ..)), ((cn_size _ _).trans hdl), (cn_one _ _), rfl, fun _ _ FF4 MM4 => then_n ?_⟩))
  generalize nb 9 = bt at *
  refine wp_seq ?_
  refine wp_seq (rg_dc 7 FF4 MM4 [(0, b_ 0), (0, b_ 2), (0, b_ 1), (2, t_ (.agg (cn .u8 (tagA K N E (Z.take (Z.length - 16)))))), (0, f_ (.bool false))] [] 13 [33] [2] (⟨rfl, ((cn_size _ _).trans hdl), rfl, ((cn_size _ _).trans hK.len), rfl, ((cn_size _ _).trans hN.len), (callP_of en_atag (atag_any K N ⟨hK.len, hK.lt⟩ ⟨hN.len, hN.lt⟩ E (Z.take (Z.length - 16)) hE (take_lt hZ) (by omega) (by rw [List.length_take]; omega)) _), (neqA_ok (t := 109) (t' := 109) (e := 5) (m := 16) (k := .u8) (x := (.tmp 27)) (y := (.tmp 32)) (by kernel_rfl) Try.underlying109 Try.underlying5 (by kernel_rfl) (by kernel_rfl) (by kernel_rfl) rfl rfl hdl (tagA_len _ _ _ _) (decide_eq_false (fun h => h ho.2))), fun _ _ FF5 MM5 => then_n ?_⟩))
  refine wp_cond_false (FF5.ev 0 rfl) ?_
  refine wp_skip ?_
  refine then_n ?_
  refine wp_seq (rg_c FF5 MM5 [(0, b_ 2), (0, b_ 1), (1, t_ (sB (maskN K 1 N (Z.take (Z.length - 16)))))] 13 [] [] (⟨rfl, ((cn_size _ _).trans hK.len), rfl, ((cn_size _ _).trans hN.len), (callP_of en_Mask (Mask_any K N (Z.take (Z.length - 16)) 1 ⟨hK.len, hK.lt⟩ (by decide) ⟨hN.len, hN.lt⟩ (take_lt hZ)) _), fun _ _ FF6 MM6 => then_n ?_⟩))
  refine wp_ret ?_
  repeat first | refine then_ret ?_ | refine inb_ret ?_
  exact (ret_tup2 FF6 1 0 Try.results40 rfl rfl ⟨rfl, MM6.below⟩)
set_option maxRecDepth 100000 in
theorem open_bad (K N : List Nat) (hK : Bytes 32 K) (hN : Bytes 12 N) (E Z : List Nat) (hE : ∀ i, E.getD i 0 < 256) (hZ : ∀ i, Z.getD i 0 < 256) (hl : E.length < 4611686018427387904) (hl2 : Z.length < 4611686018427387904) (h16 : 16 ≤ Z.length) (ho : ¬ opensN K N E Z) (w0 : World) :
    Calls Try.prog 40 #[.agg (cn .u8 K), .agg (cn .u8 N), sB E, sB Z] w0 fun e w' => e = .returned (.tuple #[sB [], .bool false]) ∧ Below w0.heap.size w0 w' := by
  refine enter_fr Try.func40 rfl Try.ntmps40 (by simp) fun ac (FF : Fr 38 ac [(0, .agg (cn .u8 K)), (1, .agg (cn .u8 N)), (2, sB E), (3, sB Z)]) => ?_
  have MM := MemS.start w0
  refine wp_seq (rg_c FF MM [(0, s_ 0 (.cells (cn .u8 K) 42)), (0, s_ 0 (.cells (cn .u8 N) 45)), (0, t_ (sB []))] 9 [9] [0, 1] (⟨(by kernel_rfl), fun bk => ⟨(by kernel_rfl), fun bn => ⟨(by kernel_rfl), fun _ _ FF1 MM1 => then_n ?_⟩⟩⟩))
  refine wp_seq (rg_c FF1 MM1 [(1, t_ (iN Z.length))] 11 [] [] (⟨(vI (bs_size _)), by omega, by omega, fun _ _ FF2 MM2 => then_n ?_⟩))
  refine wp_seq ?_
  refine wp_seq (rg_c FF2 MM2 [(1, w_ 3)] 11 [17] [] (⟨by omega, fun _ _ FF3 MM3 => then_n ?_⟩))
  refine wp_cond_false (FF3.ev 0 rfl) ?_
  refine wp_skip ?_
  refine then_n ?_
  have hdl : (Z.drop (Z.length - 16)).length = 16 := by simp; omega
  refine wp_seq (rg_draw2 FF3 MM3 [.inl (sB Z), .inl (iN (Z.length - 16)), .inl (sB (Z.take (Z.length - 16))), .inl (sB Z), .inl (iN (Z.length - 16)), .inl (sB (Z.drop (Z.length - 16))), .inr (fun c => .cells (cn .u8 ((Z.drop (Z.length - 16)) ++ List.replicate c 0)) 5 ((Z.drop (Z.length - 16)).length + c, (Z.drop (Z.length - 16)).length + c + 1), fun b c => .slice (some ⟨b, 0, none⟩) ((Z.drop (Z.length - 16)).length) ((Z.drop (Z.length - 16)).length + c)), .inr (fun c => .cells (cn .u8 ((Z.drop (Z.length - 16)) ++ List.replicate c 0)) 5 ((Z.drop (Z.length - 16)).length + c, (Z.drop (Z.length - 16)).length + c + 1), fun b c => pT b), .inl (.agg (cn .u8 (Z.drop (Z.length - 16)))), .inr (fun _ => .cells (cn .u8 (List.replicate 16 0)) 109, fun b _ => pT b), .inl (sB (Z.take (Z.length - 16)))] [9] [o_, o_, t_ (sB (Z.take (Z.length - 16))), o_, o_, t_ (sB (Z.drop (Z.length - 16))), y_, g_ 6, l_ 0 (.agg (cn .u8 (Z.drop (Z.length - 16)))), o_, o_] [b_ 0] [10, 9, 8, 5, 4, 2, 3, 12, 11] (fun nb cp => [0 ≤ (Z.length - 16), (Z.length - 16) ≤ (bs Z).size, Value.string ((bs Z).extract 0 (Z.length - 16)) = sB (Z.take (Z.length - 16)), (Z.length - 16) ≤ (bs Z).size, 0 ≤ (bs Z).size, Value.string ((bs Z).extract (Z.length - 16) (bs Z).size) = sB (Z.drop (Z.length - 16)), RunB Try.prog [(23, sB (Z.drop (Z.length - 16))), (17, .bool false), (10, iN (Z.length - 16)), (9, .bool false), (8, sB []), (5, pT bn), (4, pT bk), (2, sB E), (3, sB Z)] [(bn, .cells (cn .u8 N) 45), (bk, .cells (cn .u8 K) 42)] (opAt Try.f40 4 6) (fun c => .cells (cn .u8 ((Z.drop (Z.length - 16)) ++ List.replicate c 0)) 5 ((Z.drop (Z.length - 16)).length + c, (Z.drop (Z.length - 16)).length + c + 1)) (fun b c => .slice (some ⟨b, 0, none⟩) ((Z.drop (Z.length - 16)).length) ((Z.drop (Z.length - 16)).length + c)), 16 ≤ (Z.drop (Z.length - 16)).length, pT (nb 6) = pT (nb 6), Obj.cells (cn .u8 ((Z.drop (Z.length - 16)) ++ List.replicate (cp 6) 0)) 5 ((Z.drop (Z.length - 16)).length + (cp 6), (Z.drop (Z.length - 16)).length + (cp 6) + 1) = .cells (cn .u8 ((Z.drop (Z.length - 16)) ++ List.replicate (cp 6) 0)) 5 ((Z.drop (Z.length - 16)).length + (cp 6), (Z.drop (Z.length - 16)).length + (cp 6) + 1), (nb 7) = (nb 7), PartAt (cn .u8 ((Z.drop (Z.length - 16)) ++ List.replicate (cp 7) 0)) 0 (cn .u8 (Z.drop (Z.length - 16))), (cn .u8 (Z.drop (Z.length - 16))).size = 16]) (fun nb cp Kt => (nb 9) = (nb 9) ∧ (cn .u8 (List.replicate 16 0)).size = 16 ∧ (cn .u8 (Z.drop (Z.length - 16))).size = 16 ∧ (cn .u8 (Z.drop (Z.length - 16))).all (·.oneCell') = true ∧ (0, 0).2 = 0 ∧ Kt [(11, sB (Z.take (Z.length - 16))), (12, pT (nb 9)), (10, iN (Z.length - 16)), (9, .bool false), (8, sB []), (5, pT bn), (4, pT bk), (2, sB E), (3, sB Z)] [((nb 9), .cells (cn .u8 (Z.drop (Z.length - 16))) 109), (bn, .cells (cn .u8 N) 45), (bk, .cells (cn .u8 K) 42)]) (by kernel_rfl) (by kernel_rfl) (by kernel_rfl) (fun _ _ => by kernel_rfl) (fun _ _ _ => by kernel_rfl) ⟨⟨_, rfl⟩, rfl, trivial⟩ (by kernel_rfl) (fun nb cp => ⟨(Nat.zero_le _), (by simp only [bs_size]; omega), (vS2 ((bs_extract _ _ _).trans (congrArg bs (List.drop_zero ..)))), (by simp only [bs_size]; omega), (Nat.zero_le _), (vS2 (bs_from _ _)), (bytes_ok (e := 5) (x := (.tmp 23)) (by kernel_rfl) rfl (drop_lt hZ) Try.underlying9 Try.underlying73 Try.underlying5), (by rw [hdl]; decide), rfl, rfl, rfl, (part_rep _ _), ((cn_size _ _).trans hdl), trivial⟩) (fun nb cp => ⟨rfl, ((cn_size _ _).trans (List.length_replicate ..)), ((cn_size _ _).trans hdl), (cn_one _ _), rfl, fun _ _ FF4 MM4 => then_n ?_⟩))
  generalize nb 9 = bt at *
  refine wp_seq ?_
  refine wp_seq (rg_dc 7 FF4 MM4 [(0, b_ 0), (0, b_ 2), (0, b_ 1), (2, t_ (.agg (cn .u8 (tagA K N E (Z.take (Z.length - 16)))))), (0, f_ (.bool true))] [] 13 [33] [2] (⟨rfl, ((cn_size _ _).trans hdl), rfl, ((cn_size _ _).trans hK.len), rfl, ((cn_size _ _).trans hN.len), (callP_of en_atag (atag_any K N ⟨hK.len, hK.lt⟩ ⟨hN.len, hN.lt⟩ E (Z.take (Z.length - 16)) hE (take_lt hZ) (by omega) (by rw [List.length_take]; omega)) _), (neqA_ok (t := 109) (t' := 109) (e := 5) (m := 16) (k := .u8) (x := (.tmp 27)) (y := (.tmp 32)) (by kernel_rfl) Try.underlying109 Try.underlying5 (by kernel_rfl) (by kernel_rfl) (by kernel_rfl) rfl rfl hdl (tagA_len _ _ _ _) (decide_eq_true (fun h => ho ⟨h16, h⟩))), fun _ _ FF5 MM5 => then_n ?_⟩))
  refine wp_cond_true (FF5.ev 0 rfl) ?_
  refine wp_seq (rg_c FF5 MM5 [(0, t_ (sB []))] 13 [] [] (⟨(by kernel_rfl), fun _ _ FF6 MM6 => then_n ?_⟩))
  refine wp_ret ?_
  repeat first | refine then_ret ?_ | refine inb_ret ?_
  exact (ret_tup2 FF6 1 0 Try.results40 rfl rfl ⟨rfl, MM6.below⟩)
theorem open_no (K N : List Nat) (hK : Bytes 32 K) (hN : Bytes 12 N) (E Z : List Nat) (hE : ∀ i, E.getD i 0 < 256) (hZ : ∀ i, Z.getD i 0 < 256) (hl : E.length < 4611686018427387904) (hl2 : Z.length < 4611686018427387904) (ho : ¬ opensN K N E Z) (w0 : World) :
    Calls Try.prog 40 #[.agg (cn .u8 K), .agg (cn .u8 N), sB E, sB Z] w0 fun e w' => e = .returned (.tuple #[sB [], .bool false]) ∧ Below w0.heap.size w0 w' := by
  rcases Nat.lt_or_ge Z.length 16 with h | h
  · exact open_short K N hK hN E Z hE hZ hl hl2 h w0
  · exact open_bad K N hK hN E Z hE hZ hl hl2 h ho w0
end Go.Proofs.Ytniplfjnpjihoaa
namespace Go.Proofs.Ytniplfjnpjihoaa
open Go.RowKit
theorem en_pnew : Enters Try.prog 9 := fun args w => by simp [go_sem]
theorem en_pshared : Enters Try.prog 24 := fun args w => by simp [go_sem]
theorem en_pshare : Enters Try.prog 13 := fun args w => by simp [go_sem]
theorem en_pKey : Enters Try.prog 26 := fun args w => by simp [go_sem]
theorem en_pseal : Enters Try.prog 18 := fun args w => by simp [go_sem]
theorem en_popen : Enters Try.prog 21 := fun args w => by simp [go_sem]
theorem en_pforged : Enters Try.prog 23 := fun args w => by simp [go_sem]
theorem laidP : laidOutB Try.prog = true := Try.laidOut
theorem key_law : MKey Try.prog 42 (fun X => .agg (cn .u8 X)) (BytesK 32) := bytes_key (e := 5) (d := 189) laidP (by decide +kernel) (by decide +kernel) (by decide +kernel) (by decide +kernel) Try.underlying42 Try.underlying5 (by kernel_rfl) (by kernel_rfl)
abbrev boxV (x : BoxK) : Value := .agg (cn .u8 x.1 ++ cn .u8 x.2.1 ++ #[sB x.2.2])
abbrev noteV (X : List Nat) : Value := sB X
def OkQ (pn : Notes) : Prop := (∀ p ∈ pn, OkB p.1 ∧ (∀ i, p.2.getD i 0 < 256) ∧ p.2.length ≤ 1000000) ∧ Uniq pn
abbrev NM (l : Notes) : Obj := mapO boxV noteV l
theorem box_size {x : BoxK} (h : OkB x) : (cn .u8 x.1 ++ cn .u8 x.2.1 ++ #[sB x.2.2]).size = 45 := by
  simp only [Array.size_append, cn_size, h.1.1, h.2.1.1]
  rfl
theorem box_key {P : Program} {d k e a0 a1 a2 : Nat} {fs : Array Field} {f0 f1 f2 : Field} (hl : laidOutB P = true) (hs : P.types.size + 2 ≤ 10000) (hd : P.types.size = d + 2) (hr : k < P.types.size) (hk : P.keyType k = true) (ht : P.underlying k = some (.struct fs)) (hf : fs.toList = [f0, f1, f2]) (hn : P.cellsOf k = 45)
    (hb : fs.all (·.name != "_") = true) (o0 : f0.offset = 0) (o1 : f1.offset = 32) (o2 : f2.offset = 44) (t0 : f0.type = a0) (t1 : f1.type = a1) (t2 : f2.type = a2) (h0 : P.underlying a0 = some (.array 32 e)) (h1 : P.underlying a1 = some (.array 12 e)) (h2 : P.underlying a2 = some .string)
    (he : P.underlying e = some (.int .u8)) (c0 : P.cellsOf a0 = 32) (c1 : P.cellsOf a1 = 12) (c2 : P.cellsOf a2 = 1) (ce : P.cellsOf e = 1) : MKey P k boxV OkB where
  law := deep_law_gate hl hs hr hk (by rw [ht])
  lit x hx := by
    have hsz := box_size hx
    obtain ⟨K, N, B⟩ := x
    obtain ⟨hK, hN, hB, hBl⟩ := hx
    have hBl : B.length ≤ 1000000 := hBl
    have ec : (cn .u8 K ++ cn .u8 N ++ #[sB B]).toList = (cn .u8 K).toList ++ ((cn .u8 N).toList ++ [sB B]) := by simp
    have lK : (cn .u8 K).toList.length = 32 := by rw [Array.length_toList, cn_size]; exact hK.1
    have lN : (cn .u8 N).toList.length = 12 := by rw [Array.length_toList, cn_size]; exact hN.1
    obtain ⟨q0, e0⟩ := lits_bytes (d := d) h0 he ce c0 hK
    obtain ⟨q1, e1⟩ := lits_bytes (d := d) h1 he ce c1 hN
    obtain ⟨q2, e2⟩ := lits_str (d := d + 1) h2 (X := B) (by simp only [maxLen]; omega)
    have p0 : (((cn .u8 K).toList ++ ((cn .u8 N).toList ++ [sB B])).drop 0).take 32 = (cn .u8 K).toList := by rw [List.drop_zero, List.take_append_of_le_length (by omega), List.take_of_length_le (by omega)]
    have p1 : (((cn .u8 K).toList ++ ((cn .u8 N).toList ++ [sB B])).drop 32).take 12 = (cn .u8 N).toList := by rw [List.drop_append_of_le_length (by omega), List.drop_of_length_le (by omega), List.nil_append, List.take_append_of_le_length (by omega), List.take_of_length_le (by omega)]
    have p2 : (((cn .u8 K).toList ++ ((cn .u8 N).toList ++ [sB B])).drop 44).take 1 = [sB B] := by
      rw [show 44 = (cn .u8 K).toList.length + 12 by omega, ← List.drop_drop, List.drop_left, show 12 = (cn .u8 N).toList.length by omega, List.drop_left]
      rfl
    have hL : P.keyLits (d + 3) k (cn .u8 K ++ cn .u8 N ++ #[sB B]).toList = some [q0, q1, q2].flatten := by
      unfold Program.keyLits
      rw [ht]
      dsimp only
      rw [if_pos ⟨by rw [Array.length_toList, hsz, hn], by rw [← Array.all_toList] at hb ⊢; exact hb⟩, hf, ec]
      simp only [List.mapM_cons, List.mapM_nil, o0, o1, o2, t0, t1, t2, c0, c1, c2, p0, p1, p2, e0, e1, e2, Option.bind_eq_bind, Option.bind_some, Option.pure_def, Option.map_some]
    exact ⟨_, by simp only [keyOf, ht, hk, Value.formed, Value.cells, hsz, hn, hd, hL, BEq.rfl, Bool.and_self, if_true, Option.map_some]; rfl⟩
  inj x y hx hy h := by
    obtain ⟨K, N, B⟩ := x
    obtain ⟨K', N', B'⟩ := y
    obtain ⟨hK, hN, hB, hBl⟩ := hx
    obtain ⟨hK', hN', hB', hBl'⟩ := hy
    have e := Value.agg.inj h
    simp only at hK hN hB hK' hN' hB' e
    have l1 : K.length = 32 := hK.1
    have l2 : N.length = 12 := hN.1
    have cell : ∀ (K N B : List Nat), K.length = 32 → N.length = 12 → (∀ i, i < 32 → (cn .u8 K ++ cn .u8 N ++ #[sB B])[i]? = some (iB (K.getD i 0))) ∧ (∀ i, i < 12 → (cn .u8 K ++ cn .u8 N ++ #[sB B])[32 + i]? = some (iB (N.getD i 0))) ∧ (cn .u8 K ++ cn .u8 N ++ #[sB B])[44]? = some (sB B) := fun K N B hK hN => by
      have s1 : (cn .u8 K).size = 32 := by rw [cn_size, hK]
      have s2 : (cn .u8 K ++ cn .u8 N).size = 44 := by rw [Array.size_append, cn_size, cn_size, hK, hN]
      refine ⟨fun i hi => ?_, fun i hi => ?_, ?_⟩
      · rw [Array.getElem?_append_left (by omega), Array.getElem?_append_left (by omega), cn_get _ _ _ (by omega)]
      · rw [Array.getElem?_append_left (by omega), Array.getElem?_append_right (by omega), s1, Nat.add_sub_cancel_left, cn_get _ _ _ (by omega)]
      · rw [Array.getElem?_append_right (by omega), s2]
        rfl
    obtain ⟨a1, a2, a3⟩ := cell K N B hK.1 hN.1
    obtain ⟨b1, b2, b3⟩ := cell K' N' B' hK'.1 hN'.1
    rw [e] at a1 a2 a3
    have num : ∀ {x y : Nat}, some (Value.int .u8 (x : Int)) = some (.int .u8 (y : Int)) → x = y := fun h => Int.ofNat.inj (Value.int.inj (Option.some.inj h)).2
    have eK : K = K' := ext_getD (hK.1.trans hK'.1.symm) fun i hi => num ((a1 i (by omega)).symm.trans (b1 i (by omega)))
    have eN : N = N' := ext_getD (hN.1.trans hN'.1.symm) fun i hi => num ((a2 i (by omega)).symm.trans (b2 i (by omega)))
    have eB : B = B' := bs_inj hB hB' (Value.string.inj (Option.some.inj (a3.symm.trans b3)))
    rw [eK, eN, eB]
theorem box_law : MKey Try.prog 98 boxV OkB := box_key (e := 5) (d := 188) laidP (by decide +kernel) (by decide +kernel) (by decide +kernel) (by decide +kernel) Try.underlying98 rfl (by kernel_rfl) (by decide +kernel) rfl rfl rfl rfl rfl rfl Try.underlying42 Try.underlying45 Try.underlying9 Try.underlying5 (by kernel_rfl) (by kernel_rfl) (by kernel_rfl) (by kernel_rfl)
/-- What is shared, as the program keeps it; what is noted. -/
abbrev KM (l : Pairs) : Obj := mapO (fun X => .agg (cn .u8 X)) (fun X => .agg (cn .u8 X)) l
abbrev BB (i : Bool) (t : Value) (m1 m2 m3 f : Nat) : Obj := .cells #[.bool i, t, .map (some m1), .map (some m2), .map (some m3), iN f] 82
set_option maxRecDepth 100000 in
theorem pshared_any {b m1 m2 m3 : Nat} {i : Bool} {t : Value} {f : Nat} {ks : Pairs} {K : List Nat} (hk : OkP 32 ks) (hK : BytesK 32 K) (w0 : World) (H : Has w0 [(b, oC #[.bool i, t, .map (some m1), .map (some m2), .map (some m3), iN f] 82), (m1, KM ks)]) (hD : Distinct [(b, oC #[.bool i, t, .map (some m1), .map (some m2), .map (some m3), iN f] 82), (m1, KM ks)]) :
    Calls Try.prog 24 #[pT b, .agg (cn .u8 K)] w0 fun e w' => e = .returned (.bool (mget K ks).isSome) ∧ TurnB [] w0 w' := by
  refine enter_fr Try.func24 rfl Try.ntmps24 (by simp) fun ac (FF : Fr 19 ac [(0, pT b), (1, .agg (cn .u8 K))]) => ?_
  have MM : MemS (fun k => k < w0.heap.size ∧ ∀ x ∈ [(b, oC #[.bool i, t, .map (some m1), .map (some m2), .map (some m3), iN f] 82), (m1, KM ks)], x.1 ≠ k) w0 w0 [(b, oC #[.bool i, t, .map (some m1), .map (some m2), .map (some m3), iN f] 82), (m1, KM ks)] [] := MemS.startN H hD
  refine wp_seq (rg_c FF MM [(0, s_ 0 (.cells (cn .u8 K) 42))] 5 [] [1] (⟨(by kernel_rfl), fun bk => fun _ _ FF1 MM1 => then_n ?_⟩))
  refine wp_seq ?_
  refine wp_seq (rg_c FF1 MM1 [(1, f_ (.bool false))] 5 [8] [] (⟨(ptrSome_ok (t := 25) (t' := 25) (x := (.tmp 7)) (y := (.const (.pointer none))) (by kernel_rfl) rfl rfl Try.underlying25), fun _ _ FF2 MM2 => then_n ?_⟩))
  refine wp_cond_false (FF2.ev 0 rfl) ?_
  refine wp_skip ?_
  refine then_n ?_
  cases hg : mget K ks with
  | none =>
    refine wp_seq (rg_lay FF2 MM2 [lval (pT b), lval (pT b), lval (.pointer (some ⟨b, 2, none⟩)), lval (.map (some m1)), lval (.agg (cn .u8 K)), lval (.tuple #[.agg (cn .u8 (List.replicate 32 0)), .bool false]), lval (.tuple #[.agg (cn .u8 (List.replicate 32 0)), .bool false]), lval (.agg (cn .u8 (List.replicate 32 0))), lval (.bool false), lnew (.cells (cn .u8 (List.replicate 32 0)) 42) (fun b => pT b) (some (10, .cells (cn .u8 (List.replicate 32 0)) 42)), lsto 9, lval (.bool false)] [o_, o_, o_, l_ 1 (.map (some m1)), b_ 0, f_ (.tuple #[.agg (cn .u8 (List.replicate 32 0)), .bool false]), o_, o_, o_, o_, o_, o_] [4, 0, 6] [b = b, (#[.bool i, t, .map (some m1), .map (some m2), .map (some m3), iN f] : Array Value)[2]? = some (.map (some m1)), bk = bk, (cn .u8 K).size = 32, RunV Try.prog [(13, .map (some m1)), (14, .agg (cn .u8 K)), (8, .bool false), (4, .bool false), (3, pT bk), (0, pT b)] [(bk, .cells (cn .u8 K) 42), (b, oC #[.bool i, t, .map (some m1), .map (some m2), .map (some m3), iN f] 82), (m1, KM ks)] (opAt Try.f24 3 5) (.tuple #[.agg (cn .u8 (List.replicate 32 0)), .bool false])] (fun nb => [(6, .bool false), (4, .bool false), (0, pT b)]) (fun nb => [((nb 9), .cells (cn .u8 (List.replicate 32 0)) 42), (bk, .cells (cn .u8 K) 42), (b, oC #[.bool i, t, .map (some m1), .map (some m2), .map (some m3), iN f] 82), (m1, KM ks)]) (by kernel_rfl) (by kernel_rfl) (by kernel_rfl) (by kernel_rfl) (fun _ => by kernel_rfl) (fun _ => by kernel_rfl) ⟨(fun a w => ⟨rfl, by simp [execOp, go_sem, cn]⟩), ⟨⟨5, 16, 42, (cn .u8 (List.replicate 32 0)), (cn .u8 (List.replicate 32 0)), 7, rfl, rfl, rfl, by kernel_rfl, rfl, rfl, by kernel_rfl, rfl, rfl, ((cn_size _ _).trans (List.length_replicate ..)).trans (((cn_size _ _).trans (List.length_replicate ..))).symm, (cn_one _ _), (show _ = some 32 by kernel_rfl).trans (congrArg some (((cn_size _ _).trans (List.length_replicate ..))).symm)⟩, trivial⟩⟩ ⟨rfl, rfl, rfl, ((cn_size _ _).trans hK.1), (mapNo_ok (t := 78) (m := (.tmp 13)) (y := (.tmp 14)) (b := m1) (i := 2) (kf := (fun X => .agg (cn .u8 X))) (vf := (fun X => .agg (cn .u8 X))) (l := ks) (x := K) (c := true) (z := .agg (cn .u8 (List.replicate 32 0))) (by kernel_rfl) rfl rfl Try.underlying78 key_law (fun p hp => (hk.1 p hp).1) hk.2 hK rfl (by kernel_rfl) hg), trivial⟩ (fun nb ac3 wd3 FF3 MM3 => then_n ?_))
    generalize nb 9 = bo at *
    refine wp_seq (rg_c FF3 MM3 [] 5 [] [] (fun _ _ FF4 MM4 => then_n ?_))
    refine wp_ret ?_
    repeat first | refine then_ret ?_ | refine inb_ret ?_
    exact (ret_fr FF4 0 Try.results24 rfl ⟨rfl, MM4.turnB [] H (fun _ h => (nomatch h)) (List.forall_mem_cons.2 ⟨.inl (List.mem_of_getElem? (i := 2) rfl), (List.forall_mem_cons.2 ⟨.inl (List.mem_of_getElem? (i := 3) rfl), (fun _ h => (nomatch h))⟩)⟩)⟩)
  | some own =>
    refine wp_seq (rg_lay FF2 MM2 [lval (pT b), lval (pT b), lval (.pointer (some ⟨b, 2, none⟩)), lval (.map (some m1)), lval (.agg (cn .u8 K)), lval (.tuple #[.agg (cn .u8 own), .bool true]), lval (.tuple #[.agg (cn .u8 own), .bool true]), lval (.agg (cn .u8 own)), lval (.bool true), lnew (.cells (cn .u8 (List.replicate 32 0)) 42) (fun b => pT b) (some (10, .cells (cn .u8 own) 42)), lsto 9, lval (.bool true)] [o_, o_, o_, l_ 1 (.map (some m1)), b_ 0, f_ (.tuple #[.agg (cn .u8 own), .bool true]), o_, o_, o_, o_, o_, o_] [4, 0, 6] [b = b, (#[.bool i, t, .map (some m1), .map (some m2), .map (some m3), iN f] : Array Value)[2]? = some (.map (some m1)), bk = bk, (cn .u8 K).size = 32, RunV Try.prog [(13, .map (some m1)), (14, .agg (cn .u8 K)), (8, .bool false), (4, .bool false), (3, pT bk), (0, pT b)] [(bk, .cells (cn .u8 K) 42), (b, oC #[.bool i, t, .map (some m1), .map (some m2), .map (some m3), iN f] 82), (m1, KM ks)] (opAt Try.f24 3 5) (.tuple #[.agg (cn .u8 own), .bool true])] (fun nb => [(6, .bool true), (4, .bool false), (0, pT b)]) (fun nb => [((nb 9), .cells (cn .u8 own) 42), (bk, .cells (cn .u8 K) 42), (b, oC #[.bool i, t, .map (some m1), .map (some m2), .map (some m3), iN f] 82), (m1, KM ks)]) (by kernel_rfl) (by kernel_rfl) (by kernel_rfl) (by kernel_rfl) (fun _ => by kernel_rfl) (fun _ => by kernel_rfl) ⟨(fun a w => ⟨rfl, by simp [execOp, go_sem, cn]⟩), ⟨⟨5, 16, 42, (cn .u8 (List.replicate 32 0)), (cn .u8 own), 7, rfl, rfl, rfl, by kernel_rfl, rfl, rfl, by kernel_rfl, rfl, rfl, ((cn_size _ _).trans (List.length_replicate ..)).trans (((cn_size _ _).trans (hk.1 _ (mget_mem hg)).2.1)).symm, (cn_one _ _), (show _ = some 32 by kernel_rfl).trans (congrArg some (((cn_size _ _).trans (hk.1 _ (mget_mem hg)).2.1)).symm)⟩, trivial⟩⟩ ⟨rfl, rfl, rfl, ((cn_size _ _).trans hK.1), (mapYes_ok (t := 78) (m := (.tmp 13)) (y := (.tmp 14)) (b := m1) (i := 2) (kf := (fun X => .agg (cn .u8 X))) (vf := (fun X => .agg (cn .u8 X))) (l := ks) (x := K) (c := true) (v := own) (by kernel_rfl) rfl rfl Try.underlying78 key_law (fun p hp => (hk.1 p hp).1) hk.2 hK rfl hg), trivial⟩ (fun nb ac5 wd5 FF5 MM5 => then_n ?_))
    generalize nb 9 = bo at *
    refine wp_seq (rg_c FF5 MM5 [] 5 [] [] (fun _ _ FF6 MM6 => then_n ?_))
    refine wp_ret ?_
    repeat first | refine then_ret ?_ | refine inb_ret ?_
    exact (ret_fr FF6 0 Try.results24 rfl ⟨rfl, MM6.turnB [] H (fun _ h => (nomatch h)) (List.forall_mem_cons.2 ⟨.inl (List.mem_of_getElem? (i := 2) rfl), (List.forall_mem_cons.2 ⟨.inl (List.mem_of_getElem? (i := 3) rfl), (fun _ h => (nomatch h))⟩)⟩)⟩)
set_option maxRecDepth 100000 in
theorem pKey_any {b m1 m2 m3 : Nat} {i : Bool} {t : Value} {f : Nat} {ks : Pairs} {K : List Nat} (hk : OkP 32 ks) (hK : BytesK 32 K) (w0 : World) (H : Has w0 [(b, oC #[.bool i, t, .map (some m1), .map (some m2), .map (some m3), iN f] 82), (m1, KM ks)]) (hD : Distinct [(b, oC #[.bool i, t, .map (some m1), .map (some m2), .map (some m3), iN f] 82), (m1, KM ks)]) :
    Calls Try.prog 26 #[pT b, .agg (cn .u8 K)] w0 fun e w' => e = .returned (.agg (cn .u8 (ownN K ks))) ∧ TurnB [] w0 w' := by
  refine enter_fr Try.func26 rfl Try.ntmps26 (by simp) fun ac (FF : Fr 16 ac [(0, pT b), (1, .agg (cn .u8 K))]) => ?_
  have MM : MemS (fun k => k < w0.heap.size ∧ ∀ x ∈ [(b, oC #[.bool i, t, .map (some m1), .map (some m2), .map (some m3), iN f] 82), (m1, KM ks)], x.1 ≠ k) w0 w0 [(b, oC #[.bool i, t, .map (some m1), .map (some m2), .map (some m3), iN f] 82), (m1, KM ks)] [] := MemS.startN H hD
  refine wp_seq (rg_c FF MM [(0, s_ 0 (.cells (cn .u8 K) 42)), (0, s_ 0 (.cells (cn .u8 (List.replicate 32 0)) 42))] 5 [] [1] (⟨(by kernel_rfl), fun bk => ⟨(by kernel_rfl), fun br => fun _ _ FF1 MM1 => then_n ?_⟩⟩))
  refine wp_seq ?_
  cases hg : mget K ks with
  | none =>
    refine wp_seq (rg_c FF1 MM1 [(1, b_ 1), (0, u_ 1 (.bool false))] 5 [8] [] (⟨rfl, ((cn_size _ _).trans hK.1), (callP_B [2, 3] en_pshared rfl (fun w Hw => by have h0 := pshared_any hk hK w Hw (distinct_names rfl (distinct_at MM1.distinct (is := [2, 3]) rfl rfl)); rw [hg] at h0; exact h0)), fun _ _ FF2 MM2 => then_n ?_⟩))
    refine wp_cond_true (FF2.ev 0 rfl) ?_
    refine wp_seq (rg_c FF2 MM2 [(0, b_ 1), (0, b_ 0)] 5 [] [] (⟨rfl, ((cn_size _ _).trans hK.1), rfl, ((cn_size _ _).trans (List.length_replicate ..)), ((cn_size _ _).trans hK.1), (cn_one _ _), rfl, fun _ _ FF3 MM3 => then_n ?_⟩))
    refine wp_ret ?_
    repeat first | refine then_ret ?_ | refine inb_ret ?_
    exact (retc FF3 MM3 (k := 32) (i := 0) (j := 0) Try.results26 rfl rfl Try.underlying42 rfl (by kernel_rfl) ((cn_size _ _).trans hK.1) ⟨by rw [ownN, hg]; rfl, MM3.turnB [] H (fun _ h => (nomatch h)) (List.forall_mem_cons.2 ⟨.inl (List.mem_of_getElem? (i := 2) rfl), (List.forall_mem_cons.2 ⟨.inl (List.mem_of_getElem? (i := 3) rfl), (fun _ h => (nomatch h))⟩)⟩)⟩)
  | some own =>
    refine wp_seq (rg_c FF1 MM1 [(1, b_ 1), (0, u_ 1 (.bool true))] 5 [8] [] (⟨rfl, ((cn_size _ _).trans hK.1), (callP_B [2, 3] en_pshared rfl (fun w Hw => by have h0 := pshared_any hk hK w Hw (distinct_names rfl (distinct_at MM1.distinct (is := [2, 3]) rfl rfl)); rw [hg] at h0; exact h0)), fun _ _ FF4 MM4 => then_n ?_⟩))
    refine wp_cond_false (FF4.ev 0 rfl) ?_
    refine wp_skip ?_
    refine then_n ?_
    refine wp_seq (rg_dc 6 FF4 MM4 [(3, l_ 2 (.map (some m1))), (0, b_ 1), (0, f_ (.agg (cn .u8 own)))] [(0, b_ 0)] 5 [] [] (⟨rfl, rfl, rfl, ((cn_size _ _).trans hK.1), (mapYes_ok (t := 78) (m := (.tmp 13)) (y := (.tmp 14)) (b := m1) (i := 3) (kf := (fun X => .agg (cn .u8 X))) (vf := (fun X => .agg (cn .u8 X))) (l := ks) (x := K) (c := false) (v := own) (by kernel_rfl) rfl rfl Try.underlying78 key_law (fun p hp => (hk.1 p hp).1) hk.2 hK rfl hg), rfl, ((cn_size _ _).trans (List.length_replicate ..)), ((cn_size _ _).trans (hk.1 _ (mget_mem hg)).2.1), (cn_one _ _), rfl, fun _ _ FF5 MM5 => then_n ?_⟩))
    refine wp_ret ?_
    repeat first | refine then_ret ?_ | refine inb_ret ?_
    exact (retc FF5 MM5 (k := 32) (i := 0) (j := 0) Try.results26 rfl rfl Try.underlying42 rfl (by kernel_rfl) ((cn_size _ _).trans (hk.1 _ (mget_mem hg)).2.1) ⟨by rw [ownN, hg]; rfl, MM5.turnB [] H (fun _ h => (nomatch h)) (List.forall_mem_cons.2 ⟨.inl (List.mem_of_getElem? (i := 2) rfl), (List.forall_mem_cons.2 ⟨.inl (List.mem_of_getElem? (i := 3) rfl), (fun _ h => (nomatch h))⟩)⟩)⟩)
set_option maxRecDepth 100000 in
theorem pshare_any {b m1 m2 m3 : Nat} {f : Nat} {i : Bool} {t : Nat} {ks : Pairs} {K : List Nat} (hk : OkP 32 ks) (hK : BytesK 32 K) {X : List Nat} {u : Nat} (hX : ∀ i, X.getD i 0 < 256) (hu : u < 4611686018427000000) (w0 : World) (H : Has w0 [(b, oC #[.bool i, pT t, .map (some m1), .map (some m2), .map (some m3), iN f] 82), (m1, KM ks), (t, oC #[sB X, iN u] 84)]) (hD : Distinct [(b, oC #[.bool i, pT t, .map (some m1), .map (some m2), .map (some m3), iN f] 82), (m1, KM ks), (t, oC #[sB X, iN u] 84)]) :
    Calls Try.prog 13 #[pT b, .agg (cn .u8 K)] w0 fun e w' => e = .returned (.tuple #[]) ∧ TurnB [(m1, KM (shareK i 32 K ks X)), (t, TB (X.drop (shareU i 32 K ks)) (u + shareU i 32 K ks))] w0 w' := by
  refine enter_fr Try.func13 rfl Try.ntmps13 (by simp) fun ac (FF : Fr 31 ac [(0, pT b), (1, .agg (cn .u8 K))]) => ?_
  have MM : MemS (fun k => k < w0.heap.size ∧ ∀ x ∈ [(b, oC #[.bool i, pT t, .map (some m1), .map (some m2), .map (some m3), iN f] 82), (m1, KM ks), (t, oC #[sB X, iN u] 84)], x.1 ≠ k) w0 w0 [(b, oC #[.bool i, pT t, .map (some m1), .map (some m2), .map (some m3), iN f] 82), (m1, KM ks), (t, oC #[sB X, iN u] 84)] [] := MemS.startN H hD
  refine wp_seq (rg_c FF MM [(0, s_ 0 (.cells (cn .u8 K) 42))] 1 [3] [] (⟨(by kernel_rfl), fun bk => fun _ _ FF1 MM1 => then_n ?_⟩))
  refine wp_seq ?_
  cases hg : mget K ks with
  | none =>
    refine wp_seq (rg_c FF1 MM1 [(1, f_ (.bool false)), (2, b_ 0), (0, u_ 1 (.bool false))] 4 [10] [] (⟨(ptrSome_ok (t := 25) (t' := 25) (x := (.tmp 4)) (y := (.const (.pointer none))) (by kernel_rfl) rfl rfl Try.underlying25), rfl, ((cn_size _ _).trans hK.1), (callP_B [1, 2] en_pshared rfl (fun w Hw => by have h0 := pshared_any hk hK w Hw (distinct_names rfl (distinct_at MM1.distinct (is := [1, 2]) rfl rfl)); rw [hg] at h0; exact h0)), fun _ _ FF2 MM2 => then_n ?_⟩))
    refine wp_cond_false (FF2.ev 0 rfl) ?_
    refine wp_skip ?_
    refine then_n ?_
    cases i with
    | false =>
      refine wp_seq (rg_c FF2 MM2 [(3, l_ 1 (.bool false))] 4 [14] [] (⟨rfl, rfl, fun _ _ FF3 MM3 => then_n ?_⟩))
      refine wp_cond_false (FF3.ev 0 rfl) ?_
      refine rg_dc 6 FF3 MM3 [(3, l_ 1 (.map (some m1))), (0, b_ 0), (0, b_ 0)] [(0, r_ undef [(2, KM (ks ++ [(K, K)]))])] 4 [] [] (⟨rfl, rfl, rfl, ((cn_size _ _).trans hK.1), rfl, ((cn_size _ _).trans hK.1), (by rw [← mput_new _ hg]; exact (mapPut_ok (t := 78) (m := (.tmp 28)) (y := (.tmp 29)) (z := (.tmp 30)) (b := m1) (i := 2) (kf := (fun X => .agg (cn .u8 X))) (vf := (fun X => .agg (cn .u8 X))) (l := ks) (x := K) (v := K) (by kernel_rfl) rfl rfl rfl Try.underlying78 key_law (fun p hp => (hk.1 p hp).1) hk.2 hK rfl)), fun _ _ FF4 MM4 => ?_⟩)
      exact (end_none FF4 Try.results13 (by rw [(share_no hg _).1, (share_no hg []).2]; exact ⟨rfl, MM4.turnB [(m1, KM (ks ++ [(K, K)])), (t, oC #[sB X, iN u] 84)] H (List.forall_mem_cons.2 ⟨(List.mem_of_getElem? (i := 2) rfl), (List.forall_mem_cons.2 ⟨(List.mem_of_getElem? (i := 3) rfl), (fun _ h => (nomatch h))⟩)⟩) (List.forall_mem_cons.2 ⟨.inl (List.mem_of_getElem? (i := 1) rfl), (List.forall_mem_cons.2 ⟨.inr ⟨_, (List.mem_of_getElem? (i := 0) rfl), rfl⟩, (List.forall_mem_cons.2 ⟨.inr ⟨_, (List.mem_of_getElem? (i := 1) rfl), rfl⟩, (fun _ h => (nomatch h))⟩)⟩)⟩)⟩))
    | true =>
      refine wp_seq (rg_c FF2 MM2 [(3, l_ 1 (.bool true))] 4 [14] [] (⟨rfl, rfl, fun _ _ FF5 MM5 => then_n ?_⟩))
      refine wp_cond_true (FF5.ev 0 rfl) ?_
      refine late_stand (N := 11) [(b, oC #[.bool true, pT t, .map (some m1), .map (some m2), .map (some m3), iN f] 82), (bk, .cells (cn .u8 K) 42)] (by kernel_rfl) (by kernel_rfl) MM5 fun wq6 MM7 => ?_
      refine late_take FF5 (i := 0) (oi := (opAt Try.f13 3 0)) (v := (pT b)) (d := 15) (atL_has (is := [1, 0]) rfl MM7.hasL) (by kernel_rfl) (by kernel_rfl) (by kernel_rfl) (by kernel_rfl) (by kernel_rfl) (fun _ _ _ _ _ h => h) (by kernel_rfl) (by decide) (by kernel_rfl) (mvV (x := (.tmp 0)) (by kernel_rfl) rfl) fun _ FF8 => ?_
      refine late_take FF8 (i := 1) (oi := (opAt Try.f13 3 1)) (v := (pT b)) (d := 16) (atL_has (is := [1, 0]) rfl MM7.hasL) (by kernel_rfl) (by kernel_rfl) (by kernel_rfl) (by kernel_rfl) (by kernel_rfl) (fun _ _ _ _ _ h => h) (by kernel_rfl) (by decide) (by kernel_rfl) (nilV (x := (.tmp 15)) (by kernel_rfl) rfl) fun _ FF9 => ?_
      refine late_take FF9 (i := 2) (oi := (opAt Try.f13 3 2)) (v := (.pointer (some ⟨b, 2, none⟩))) (d := 17) (atL_has (is := [1, 0]) rfl MM7.hasL) (by kernel_rfl) (by kernel_rfl) (by kernel_rfl) (by kernel_rfl) (by kernel_rfl) (fun _ _ _ _ _ h => h) (by kernel_rfl) (by decide) (by kernel_rfl) (fldV (x := (.tmp 16)) (t := 82) (k := 2) (cs := []) (by kernel_rfl) rfl (by kernel_rfl)) fun _ FF10 => ?_
      refine late_take FF10 (i := 3) (oi := (opAt Try.f13 3 3)) (v := (.map (some m1))) (d := 18) (atL_has (is := [1, 0]) rfl MM7.hasL) (by kernel_rfl) (by kernel_rfl) (by kernel_rfl) (by kernel_rfl) (by kernel_rfl) (fun _ _ _ _ _ h => h) (by kernel_rfl) (by decide) (by kernel_rfl) (loadVi (x := (.tmp 17)) (k := 0) (by kernel_rfl) rfl Try.underlying78 rfl rfl rfl) fun _ FF11 => ?_
      refine late_take FF11 (i := 4) (oi := (opAt Try.f13 3 4)) (v := (.agg (cn .u8 K))) (d := 19) (atL_has (is := [1, 0]) rfl MM7.hasL) (by kernel_rfl) (by kernel_rfl) (by kernel_rfl) (by kernel_rfl) (by kernel_rfl) (fun _ _ _ _ _ h => h) (by kernel_rfl) (by decide) (by kernel_rfl) (loadRi (x := (.tmp 3)) (k := 1) (m := 32) (by kernel_rfl) rfl Try.underlying42 rfl (by kernel_rfl) rfl ((cn_size _ _).trans hK.1)) fun _ FF12 => ?_
      refine late_take FF12 (i := 5) (oi := (opAt Try.f13 3 5)) (v := (pT b)) (d := 20) (atL_has (is := [1, 0]) rfl MM7.hasL) (by kernel_rfl) (by kernel_rfl) (by kernel_rfl) (by kernel_rfl) (by kernel_rfl) (fun _ _ _ _ _ h => h) (by kernel_rfl) (by decide) (by kernel_rfl) (mvV (x := (.tmp 0)) (by kernel_rfl) rfl) fun _ FF13 => ?_
      refine late_take FF13 (i := 6) (oi := (opAt Try.f13 3 6)) (v := (pT b)) (d := 21) (atL_has (is := [1, 0]) rfl MM7.hasL) (by kernel_rfl) (by kernel_rfl) (by kernel_rfl) (by kernel_rfl) (by kernel_rfl) (fun _ _ _ _ _ h => h) (by kernel_rfl) (by decide) (by kernel_rfl) (nilV (x := (.tmp 20)) (by kernel_rfl) rfl) fun _ FF14 => ?_
      refine late_take FF14 (i := 7) (oi := (opAt Try.f13 3 7)) (v := (.pointer (some ⟨b, 1, none⟩))) (d := 22) (atL_has (is := [1, 0]) rfl MM7.hasL) (by kernel_rfl) (by kernel_rfl) (by kernel_rfl) (by kernel_rfl) (by kernel_rfl) (fun _ _ _ _ _ h => h) (by kernel_rfl) (by decide) (by kernel_rfl) (fldV (x := (.tmp 21)) (t := 82) (k := 1) (cs := []) (by kernel_rfl) rfl (by kernel_rfl)) fun _ FF15 => ?_
      refine late_take FF15 (i := 8) (oi := (opAt Try.f13 3 8)) (v := (pT t)) (d := 23) (atL_has (is := [1, 0]) rfl MM7.hasL) (by kernel_rfl) (by kernel_rfl) (by kernel_rfl) (by kernel_rfl) (by kernel_rfl) (fun _ _ _ _ _ h => h) (by kernel_rfl) (by decide) (by kernel_rfl) (loadVi (x := (.tmp 22)) (k := 0) (by kernel_rfl) rfl Try.underlying27 rfl rfl rfl) fun _ FF16 => ?_
      refine late_one (i := 9) (oi := (opAt Try.f13 3 9)) (by kernel_rfl) (by kernel_rfl) ?_
      refine rp_c 1 FF16 MM7 [(0, c_ (.agg (cn .u8 (takN 32 X))) [(3, oC #[sB (X.drop 32), iN (u + 32)] 84)])] 4 [19, 18, 24] [] (⟨(callU_turn en_tkey (g := t) (ob := TB X u) rfl fun w hg => by have h0 := tkey_any t X u hX (by omega) w hg; exact h0), fun _ _ FF17 MM17 => ?_⟩)
      refine wpl_nil (onN_n ⟨fun _ => (atL_has (is := [1, 0]) rfl MM17.hasL), ?_⟩)
      refine late_one (i := 10) (oi := (opAt Try.f13 3 10)) (by kernel_rfl) (by kernel_rfl) ?_
      refine rp_c 1 FF17 MM17 [(0, r_ undef [(2, KM (ks ++ [(K, takN 32 X)]))])] 4 [] [] (⟨(by rw [← mput_new _ hg]; exact (mapPut_ok (t := 78) (m := (.tmp 18)) (y := (.tmp 19)) (z := (.tmp 24)) (b := m1) (i := 2) (kf := (fun X => .agg (cn .u8 X))) (vf := (fun X => .agg (cn .u8 X))) (l := ks) (x := K) (v := takN 32 X) (by kernel_rfl) rfl rfl rfl Try.underlying78 key_law (fun p hp => (hk.1 p hp).1) hk.2 hK rfl)), fun _ _ FF18 MM18 => ?_⟩)
      refine wpl_nil (onN_n ⟨fun _ => (atL_has (is := [1, 0]) rfl MM18.hasL), ?_⟩)
      refine late_none (by kernel_rfl) ?_
      exact (end_none FF18 Try.results13 (by rw [(share_no hg _).1, (share_no hg []).2]; exact ⟨rfl, MM18.turnB [(m1, KM (ks ++ [(K, takN 32 X)])), (t, oC #[sB (X.drop 32), iN (u + 32)] 84)] H (List.forall_mem_cons.2 ⟨(List.mem_of_getElem? (i := 2) rfl), (List.forall_mem_cons.2 ⟨(List.mem_of_getElem? (i := 3) rfl), (fun _ h => (nomatch h))⟩)⟩) (List.forall_mem_cons.2 ⟨.inl (List.mem_of_getElem? (i := 1) rfl), (List.forall_mem_cons.2 ⟨.inr ⟨_, (List.mem_of_getElem? (i := 0) rfl), rfl⟩, (List.forall_mem_cons.2 ⟨.inr ⟨_, (List.mem_of_getElem? (i := 1) rfl), rfl⟩, (fun _ h => (nomatch h))⟩)⟩)⟩)⟩))
  | some own =>
    refine wp_seq (rg_c FF1 MM1 [(1, f_ (.bool false)), (2, b_ 0), (0, u_ 1 (.bool true))] 4 [10] [] (⟨(ptrSome_ok (t := 25) (t' := 25) (x := (.tmp 4)) (y := (.const (.pointer none))) (by kernel_rfl) rfl rfl Try.underlying25), rfl, ((cn_size _ _).trans hK.1), (callP_B [1, 2] en_pshared rfl (fun w Hw => by have h0 := pshared_any hk hK w Hw (distinct_names rfl (distinct_at MM1.distinct (is := [1, 2]) rfl rfl)); rw [hg] at h0; exact h0)), fun _ _ FF19 MM19 => then_n ?_⟩))
    refine wp_cond_true (FF19.ev 0 rfl) ?_
    refine wp_ret ?_
    repeat first | refine then_ret ?_ | refine inb_ret ?_
    exact (ret_none FF19 Try.results13 (by rw [(share_yes hg _).1, (share_yes hg []).2, List.drop_zero]; exact ⟨rfl, MM19.turnB [(m1, KM ks), (t, oC #[sB X, iN u] 84)] H (List.forall_mem_cons.2 ⟨(List.mem_of_getElem? (i := 2) rfl), (List.forall_mem_cons.2 ⟨(List.mem_of_getElem? (i := 3) rfl), (fun _ h => (nomatch h))⟩)⟩) (List.forall_mem_cons.2 ⟨.inl (List.mem_of_getElem? (i := 1) rfl), (List.forall_mem_cons.2 ⟨.inr ⟨_, (List.mem_of_getElem? (i := 0) rfl), rfl⟩, (List.forall_mem_cons.2 ⟨.inr ⟨_, (List.mem_of_getElem? (i := 1) rfl), rfl⟩, (fun _ h => (nomatch h))⟩)⟩)⟩)⟩))
set_option maxRecDepth 100000 in
theorem pshare_real {b m1 m2 m3 : Nat} {f : Nat} {t_ : Value} {ks : Pairs} {K : List Nat} (hk : OkP 32 ks) (hK : BytesK 32 K) (w0 : World) (H : Has w0 [(b, oC #[.bool false, t_, .map (some m1), .map (some m2), .map (some m3), iN f] 82), (m1, KM ks)]) (hD : Distinct [(b, oC #[.bool false, t_, .map (some m1), .map (some m2), .map (some m3), iN f] 82), (m1, KM ks)]) :
    Calls Try.prog 13 #[pT b, .agg (cn .u8 K)] w0 fun e w' => e = .returned (.tuple #[]) ∧ TurnB [(m1, KM (shareK false 32 K ks []))] w0 w' := by
  refine enter_fr Try.func13 rfl Try.ntmps13 (by simp) fun ac (FF : Fr 31 ac [(0, pT b), (1, .agg (cn .u8 K))]) => ?_
  have MM : MemS (fun k => k < w0.heap.size ∧ ∀ x ∈ [(b, oC #[.bool false, t_, .map (some m1), .map (some m2), .map (some m3), iN f] 82), (m1, KM ks)], x.1 ≠ k) w0 w0 [(b, oC #[.bool false, t_, .map (some m1), .map (some m2), .map (some m3), iN f] 82), (m1, KM ks)] [] := MemS.startN H hD
  refine wp_seq (rg_c FF MM [(0, s_ 0 (.cells (cn .u8 K) 42))] 1 [3] [] (⟨(by kernel_rfl), fun bk => fun _ _ FF1 MM1 => then_n ?_⟩))
  refine wp_seq ?_
  cases hg : mget K ks with
  | none =>
    refine wp_seq (rg_c FF1 MM1 [(1, f_ (.bool false)), (2, b_ 0), (0, u_ 1 (.bool false))] 4 [10] [] (⟨(ptrSome_ok (t := 25) (t' := 25) (x := (.tmp 4)) (y := (.const (.pointer none))) (by kernel_rfl) rfl rfl Try.underlying25), rfl, ((cn_size _ _).trans hK.1), (callP_B [1, 2] en_pshared rfl (fun w Hw => by have h0 := pshared_any hk hK w Hw (distinct_names rfl (distinct_at MM1.distinct (is := [1, 2]) rfl rfl)); rw [hg] at h0; exact h0)), fun _ _ FF2 MM2 => then_n ?_⟩))
    refine wp_cond_false (FF2.ev 0 rfl) ?_
    refine wp_skip ?_
    refine then_n ?_
    refine wp_seq (rg_c FF2 MM2 [(3, l_ 1 (.bool false))] 4 [14] [] (⟨rfl, rfl, fun _ _ FF3 MM3 => then_n ?_⟩))
    refine wp_cond_false (FF3.ev 0 rfl) ?_
    refine rg_dc 6 FF3 MM3 [(3, l_ 1 (.map (some m1))), (0, b_ 0), (0, b_ 0)] [(0, r_ undef [(2, KM (ks ++ [(K, K)]))])] 4 [] [] (⟨rfl, rfl, rfl, ((cn_size _ _).trans hK.1), rfl, ((cn_size _ _).trans hK.1), (by rw [← mput_new _ hg]; exact (mapPut_ok (t := 78) (m := (.tmp 28)) (y := (.tmp 29)) (z := (.tmp 30)) (b := m1) (i := 2) (kf := (fun X => .agg (cn .u8 X))) (vf := (fun X => .agg (cn .u8 X))) (l := ks) (x := K) (v := K) (by kernel_rfl) rfl rfl rfl Try.underlying78 key_law (fun p hp => (hk.1 p hp).1) hk.2 hK rfl)), fun _ _ FF4 MM4 => ?_⟩)
    exact (end_none FF4 Try.results13 (by rw [(share_no hg _).1]; exact ⟨rfl, MM4.turnB [(m1, KM (ks ++ [(K, K)]))] H (List.forall_mem_cons.2 ⟨(List.mem_of_getElem? (i := 2) rfl), (fun _ h => (nomatch h))⟩) (List.forall_mem_cons.2 ⟨.inl (List.mem_of_getElem? (i := 1) rfl), (List.forall_mem_cons.2 ⟨.inr ⟨_, (List.mem_of_getElem? (i := 0) rfl), rfl⟩, (fun _ h => (nomatch h))⟩)⟩)⟩))
  | some own =>
    refine wp_seq (rg_c FF1 MM1 [(1, f_ (.bool false)), (2, b_ 0), (0, u_ 1 (.bool true))] 4 [10] [] (⟨(ptrSome_ok (t := 25) (t' := 25) (x := (.tmp 4)) (y := (.const (.pointer none))) (by kernel_rfl) rfl rfl Try.underlying25), rfl, ((cn_size _ _).trans hK.1), (callP_B [1, 2] en_pshared rfl (fun w Hw => by have h0 := pshared_any hk hK w Hw (distinct_names rfl (distinct_at MM1.distinct (is := [1, 2]) rfl rfl)); rw [hg] at h0; exact h0)), fun _ _ FF5 MM5 => then_n ?_⟩))
    refine wp_cond_true (FF5.ev 0 rfl) ?_
    refine wp_ret ?_
    repeat first | refine then_ret ?_ | refine inb_ret ?_
    exact (ret_none FF5 Try.results13 (by rw [(share_yes hg _).1]; exact ⟨rfl, MM5.turnB [(m1, KM ks)] H (List.forall_mem_cons.2 ⟨(List.mem_of_getElem? (i := 2) rfl), (fun _ h => (nomatch h))⟩) (List.forall_mem_cons.2 ⟨.inl (List.mem_of_getElem? (i := 1) rfl), (List.forall_mem_cons.2 ⟨.inr ⟨_, (List.mem_of_getElem? (i := 0) rfl), rfl⟩, (fun _ h => (nomatch h))⟩)⟩)⟩))
end Go.Proofs.Ytniplfjnpjihoaa
namespace Go.Proofs.Ytniplfjnpjihoaa
open Go.RowKit
section
variable {P : Program} {l : Slots} {L : Blks} {o : Oper} {x y : Operand}
/-- A string over a row's head: the bytes are copied, the row is frozen so far. -/
theorem usRow_ok {t u e : TypeId} {g i : Nat} {cs : Array Value} {X : List Nat} (ho : o.op = .call ⟨.builtin .unsafeString, #[x, y], #[t, u]⟩) (hx : evO l x = some (.pointer (some ⟨g, 0, none⟩))) (hy : evO l y = some (.int .i64 (X.length : Nat)))
    (ht : P.underlying t = some (.pointer e)) (hc : P.cellsOf e = 1) (hL : L[i]? = some (g, .cells cs e)) (h0 : 0 < X.length) (hX : ∀ i, X.getD i 0 < 256) (hn : X.length ≤ cs.size) (h63 : X.length ≤ 9223372036854775807) (hcs : ∀ j, j < X.length → cs[j]? = some (.int .u8 (X.getD j 0 : Nat))) :
    RunU P l L o (.string (bs X)) [(i, .cells cs e (0, X.length))] := fun ρ w A H => by
  have h1 := A x _ hx
  have h1' := A y _ hy
  have hb := H i _ hL
  have hbl : (bs X).data.toList.length = X.length := by rw [Array.length_toList]; exact bs_size X
  have hr := Lib.run_unsafeString_row (P := P) w t u o.type e ht hc g cs.size (by simp [World.shape?, hb]) (bs X).data.toList (by intro h; rw [h] at hbl; simp at hbl; omega) (by rw [hbl]; exact hn) (by rw [hbl]; exact h63) (fun j z hz => by
    have hj : j < X.length := by rw [← hbl]; exact (List.getElem?_eq_some_iff.1 hz).1
    have e1 : (⟨g, 0, none⟩ : Addr).add j = ⟨g, j, none⟩ := by unfold Addr.add; split <;> simp_all
    rw [e1, Lib.cell_of_heap hb, hcs j hj]
    have e2 := byte_bs hX j
    simp only [nl] at e2
    have e3 : z.toNat = X.getD j 0 := by
      rw [← e2]
      simp [hz]
    rw [e3])
  rw [hbl] at hr
  refine ⟨w.freeze ⟨g, 0, none⟩ X.length, .inl ?_, ?_⟩
  · simp only [execOp, ho, resolve, invoke, builtin, h1, h1', hr, Sem.run_bind, Sem.run_pure, Result.andThen_ok, List.map_toArray, List.map_cons, List.map_nil]
  · have hne : X.length ≠ 0 := by omega
    unfold World.freeze
    rw [if_neg hne]
    refine ⟨rfl, rfl, rfl, by simp, fun k hk hu => ?_, fun o h => (nomatch h), fun _ => rfl, fun u hu z hz => ?_⟩
    · simp only [Array.getElem?_modify]
      rw [if_neg]
      intro e
      exact hu _ (List.mem_singleton.2 rfl) _ hL e
    · obtain rfl := List.mem_singleton.1 hu
      simp only at hz
      obtain rfl := Option.some.inj (hL.symm.trans hz)
      simp [Array.getElem?_modify, hb]
end
end Go.Proofs.Ytniplfjnpjihoaa
namespace Go.Proofs.Ytniplfjnpjihoaa
open Go.RowKit
theorem en_lclone : Enters Try.prog 53 := fun args w => by simp [go_sem]
theorem en_clone : Enters Try.prog 38 := fun args w => by simp [go_sem]
theorem en_repeat : Enters Try.prog 37 := fun args w => by simp [go_sem]
def renR : Go.Shelf.Ren := ⟨fun | 99 => 48 | 105 => 37 | 165 => 49 | 166 => 50 | 169 => 52 | 170 => 51 | 206 => 65 | 212 => 47 | 240 => 66 | 241 => 67 | 263 => 63 | 264 => 64 | 276 => 82 | 277 => 83 | n => n, fun | 0 => 0 | 3 => 3 | 4 => 4 | 5 => 5 | 9 => 9 | 20 => 20 | 37 => 73 | 46 => 102 | 51 => 108 | 53 => 135 | 70 => 115 | 72 => 117 | 75 => 120 | 76 => 121 | 80 => 123 | 109 => 112 | 127 => 138 | 146 => 133 | 148 => 136 | 164 => 159 | n => n, fun | n => n⟩
theorem layR : Go.Proofs.Lays.n105 Try.prog renR := {
  mixed := by kernel_rfl
  f99 := Try.func48.trans (congrArg some (by kernel_rfl))
  f105 := Try.func37.trans (congrArg some (by kernel_rfl))
  f165 := Try.func49.trans (congrArg some (by kernel_rfl))
  f166 := Try.func50.trans (congrArg some (by kernel_rfl))
  f169 := Try.func52.trans (congrArg some (by kernel_rfl))
  f170 := Try.func51.trans (congrArg some (by kernel_rfl))
  f206 := Try.func65.trans (congrArg some (by kernel_rfl))
  f212 := Try.func47.trans (congrArg some (by kernel_rfl))
  f240 := Try.func66.trans (congrArg some (by kernel_rfl))
  f241 := Try.func67.trans (congrArg some (by kernel_rfl))
  f263 := Try.func63.trans (congrArg some (by kernel_rfl))
  f264 := Try.func64.trans (congrArg some (by kernel_rfl))
  f276 := Try.func82.trans (congrArg some (by kernel_rfl))
  f277 := Try.func83.trans (congrArg some (by kernel_rfl))
  t0 := Try.underlying0
  a0 := Try.isAgg0
  z0 := Try.sizeOf0
  v0 := Try.zeroValue0
  t3 := Try.underlying3
  a3 := Try.isAgg3
  z3 := Try.sizeOf3
  v3 := Try.zeroValue3
  t4 := Try.underlying4
  a4 := Try.isAgg4
  z4 := Try.sizeOf4
  v4 := Try.zeroValue4
  t5 := Try.underlying5
  a5 := Try.isAgg5
  z5 := Try.sizeOf5
  v5 := Try.zeroValue5
  t9 := Try.underlying9
  a9 := Try.isAgg9
  z9 := Try.sizeOf9
  v9 := Try.zeroValue9
  t20 := Try.underlying20
  a20 := Try.isAgg20
  z20 := Try.sizeOf20
  v20 := Try.zeroValue20
  t37 := Try.underlying73
  a37 := Try.isAgg73
  z37 := Try.sizeOf73
  v37 := Try.zeroValue73
  t46 := Try.underlying102
  a46 := Try.isAgg102
  z46 := Try.sizeOf102
  v46 := Try.zeroValue102
  t51 := Try.underlying108
  a51 := Try.isAgg108
  z51 := Try.sizeOf108
  v51 := Try.zeroValue108
  t53 := Try.underlying135
  a53 := Try.isAgg135
  z53 := Try.sizeOf135
  v53 := Try.zeroValue135
  t70 := Try.underlying115
  a70 := Try.isAgg115
  z70 := Try.sizeOf115
  v70 := Try.zeroValue115
  t72 := Try.underlying117
  a72 := Try.isAgg117
  z72 := Try.sizeOf117
  v72 := Try.zeroValue117
  t75 := Try.underlying120
  a75 := Try.isAgg120
  z75 := Try.sizeOf120
  v75 := Try.zeroValue120
  t76 := Try.underlying121
  a76 := Try.isAgg121
  z76 := Try.sizeOf121
  v76 := Try.zeroValue121
  t109 := Try.underlying112
  a109 := Try.isAgg112
  z109 := Try.sizeOf112
  v109 := Try.zeroValue112
  t127 := Try.underlying138
  a127 := Try.isAgg138
  z127 := Try.sizeOf138
  v127 := Try.zeroValue138
  t146 := Try.underlying133
  a146 := Try.isAgg133
  z146 := Try.sizeOf133
  v146 := Try.zeroValue133
  t148 := Try.underlying136
  a148 := Try.isAgg136
  z148 := Try.sizeOf136
  v148 := Try.zeroValue136
  t164 := Try.underlying159
  a164 := Try.isAgg159
  z164 := Try.sizeOf159
  v164 := Try.zeroValue159 }
theorem extraR : Go.Proofs.Builder.Extra Try.prog renR := {
  sizeBuilder := by kernel_rfl
  liesBuilder := by kernel_rfl
  t5 := Try.underlying5
  a5 := Try.isAgg5
  z5 := Try.sizeOf5
  v5 := Try.zeroValue5
  infoByte := by kernel_rfl
  cellsByte := by kernel_rfl
  sizeByte := by kernel_rfl
  neB5 := by decide }
theorem repL_bs : ∀ k : Nat, Go.Lib.repeatL (bs [0]).data.toList k = (List.replicate k 0).map (UInt8.ofNat ·)
  | 0 => rfl
  | k + 1 => by
    rw [Go.Lib.repeatL, repL_bs k, List.replicate_succ, List.map_cons]
    rfl
theorem repeat0_any (k : Nat) (hk : k ≤ 100000000) (w : World) : Calls Try.prog 37 #[sB [0], iN k] w fun e w' => e = .returned (sB (List.replicate k 0)) ∧ Below w.heap.size w w' := by
  have h0 := Go.Proofs.Any.strings_Repeat layR extraR (bs [0]) k w (by omega) (by rw [bs_size, List.length_singleton]; omega)
  rw [repL_bs] at h0
  exact h0
set_option maxRecDepth 100000 in
theorem lclone_any (X : List Nat) (hX : ∀ i, X.getD i 0 < 256) (hl : X.length ≤ 1000000) (w0 : World) :
    Calls Try.prog 53 #[sB X] w0 fun e w' => e = .returned (sB X) ∧ Below w0.heap.size w0 w' := by
  refine enter_fr Try.func53 rfl Try.ntmps53 (by simp) fun ac (FF : Fr 18 ac [(0, sB X)]) => ?_
  have MM := MemS.start w0
  refine wp_seq (rg_c FF MM [(0, t_ (sB []))] 3 [] [] (⟨(by kernel_rfl), fun _ _ FF1 MM1 => then_n ?_⟩))
  refine wp_seq ?_
  refine wp_seq (rg_c FF1 MM1 [(1, t_ (iN X.length))] 3 [6] [] (⟨(vI (bs_size _)), fun _ _ FF2 MM2 => then_n ?_⟩))
  by_cases hs6 : X.length = 0
  · refine wp_cond_true ((FF2.ev 0 rfl).trans (dec_t hs6)) ?_
    obtain rfl : X = [] := List.eq_nil_of_length_eq_zero hs6
    refine wp_seq (rg_c FF2 MM2 [(0, t_ (sB []))] 3 [] [] (⟨(by kernel_rfl), fun _ _ FF3 MM3 => then_n ?_⟩))
    refine wp_ret ?_
    repeat first | refine then_ret ?_ | refine inb_ret ?_
    exact (ret_fr FF3 0 Try.results53 rfl ⟨rfl, MM3.below⟩)
  · refine wp_cond_false ((FF2.ev 0 rfl).trans (dec_f hs6)) ?_
    refine wp_skip ?_
    refine then_n ?_
    refine wp_seq (rg_c FF2 MM2 [(1, t_ (iN X.length)), (0, n_ (.slice none X.length X.length) (.cells (cn .u8 (List.replicate X.length 0)) 5))] 4 [] [] (⟨(vI (bs_size _)), (make_ok (t := 73) (e := 5) (p := (.tmp 8)) (q := (.tmp 8)) (by kernel_rfl) rfl rfl Try.underlying73 (by kernel_rfl) (by omega)), fun bl => fun _ _ FF4 MM4 => then_n ?_⟩))
    refine wp_seq (rg_c FF4 MM4 [(2, r_ (iN (min X.length X.length)) [(0, .cells (cn .u8 X) 5)])] 4 [] [] (⟨(copyStr_ok (p := .tmp 10) (q := .tmp 11) (t := 73) (tq := 9) (e := 5) (T := 5) (off := 0) (len := X.length) (X := X) (cs := cn .u8 (List.replicate X.length 0)) (i := 0) (by kernel_rfl) rfl rfl hX Try.underlying73 (by kernel_rfl) rfl (by rw [cn_size, List.length_replicate, Nat.zero_add]; exact Nat.le_refl _) (by rw [List.take_length]; exact setFrom_new8 (by rw [List.length_replicate]))), fun _ _ FF5 MM5 => then_n ?_⟩))
    refine wp_seq (rg_c FF5 MM5 [(1, w_ 1), (2, r_ (sB X) [(0, .cells (cn .u8 X) 5 (0, X.length))])] 4 [] [] (⟨by omega, (usRow_ok (t := 138) (u := 3) (e := 5) (i := 0) (x := .tmp 14) (y := .tmp 16) (by kernel_rfl) rfl rfl Try.underlying138 (by kernel_rfl) rfl (by omega) hX (by rw [cn_size]; exact Nat.le_refl _) (by omega) (fun j hj => cn_get _ _ _ hj)), fun _ _ FF6 MM6 => then_n ?_⟩))
    refine wp_ret ?_
    repeat first | refine then_ret ?_ | refine inb_ret ?_
    exact (ret_fr FF6 0 Try.results53 rfl ⟨rfl, MM6.below⟩)
set_option maxRecDepth 100000 in
theorem clone_any (X : List Nat) (hX : ∀ i, X.getD i 0 < 256) (hl : X.length ≤ 1000000) (w0 : World) :
    Calls Try.prog 38 #[sB X] w0 fun e w' => e = .returned (sB X) ∧ Below w0.heap.size w0 w' := by
  refine enter_fr Try.func38 rfl Try.ntmps38 (by simp) fun ac (FF : Fr 5 ac [(0, sB X)]) => ?_
  have MM := MemS.start w0
  refine wp_seq (rg_c FF MM [(0, t_ (sB []))] 3 [] [] (⟨(by kernel_rfl), fun _ _ FF1 MM1 => then_n ?_⟩))
  refine wp_seq (rg_c FF1 MM1 [(1, t_ (sB X))] 0 [2] [] (⟨(callP_of en_lclone (lclone_any X hX hl) _), fun _ _ FF2 MM2 => then_n ?_⟩))
  refine wp_ret ?_
  repeat first | refine then_ret ?_ | refine inb_ret ?_
  exact (ret_fr FF2 0 Try.results38 rfl ⟨rfl, MM2.below⟩)
set_option maxRecDepth 100000 in
theorem pseal_any {b m1 m2 m3 : Nat} {i : Bool} {t : Value} {f : Nat} {ks : Pairs} {K : List Nat} (hk : OkP 32 ks) (hK : BytesK 32 K) {pn : Notes} (hp_ : OkQ pn) {N Y : List Nat} (hN : BytesK 12 N) (hY : ∀ i, Y.getD i 0 < 256) (hYl : Y.length ≤ 900000) (hO : i = false → ∀ own, mget K ks = some own → own = K) (w0 : World) (H : Has w0 [(b, oC #[.bool i, t, .map (some m1), .map (some m2), .map (some m3), iN f] 82), (m1, KM ks), (m3, NM pn)]) (hD : Distinct [(b, oC #[.bool i, t, .map (some m1), .map (some m2), .map (some m3), iN f] 82), (m1, KM ks), (m3, NM pn)]) :
    Calls Try.prog 18 #[pT b, .agg (cn .u8 K), .agg (cn .u8 N), sB Y] w0 fun e w' => e = .returned (sB (boxN i K N ks Y)) ∧ TurnB [(m3, NM (noteP i K N ks Y pn))] w0 w' := by
  refine enter_fr Try.func18 rfl Try.ntmps18 (by simp) fun ac (FF : Fr 44 ac [(0, pT b), (1, .agg (cn .u8 K)), (2, .agg (cn .u8 N)), (3, sB Y)]) => ?_
  have MM : MemS (fun k => k < w0.heap.size ∧ ∀ x ∈ [(b, oC #[.bool i, t, .map (some m1), .map (some m2), .map (some m3), iN f] 82), (m1, KM ks), (m3, NM pn)], x.1 ≠ k) w0 w0 [(b, oC #[.bool i, t, .map (some m1), .map (some m2), .map (some m3), iN f] 82), (m1, KM ks), (m3, NM pn)] [] := MemS.startN H hD
  refine wp_seq (rg_c FF MM [(0, s_ 0 (.cells (cn .u8 K) 42)), (0, s_ 0 (.cells (cn .u8 N) 45)), (0, t_ (sB []))] 9 [] [1, 2] (⟨(by kernel_rfl), fun bk => ⟨(by kernel_rfl), fun bn => ⟨(by kernel_rfl), fun _ _ FF1 MM1 => then_n ?_⟩⟩⟩))
  refine wp_seq ?_
  cases hg : mget K ks with
  | none =>
    refine wp_seq (rg_c FF1 MM1 [(1, b_ 1), (0, u_ 1 (.bool false))] 9 [14] [] (⟨rfl, ((cn_size _ _).trans hK.1), (callP_B [2, 3] en_pshared rfl (fun w Hw => by have h0 := pshared_any hk hK w Hw (distinct_names rfl (distinct_at MM1.distinct (is := [2, 3]) rfl rfl)); rw [hg] at h0; exact h0)), fun _ _ FF2 MM2 => then_n ?_⟩))
    refine wp_cond_true (FF2.ev 0 rfl) ?_
    refine wp_seq (rg_c FF2 MM2 [(0, b_ 1), (0, b_ 0), (1, t_ (sB (sealN K N [] Y)))] 9 [] [] (⟨rfl, ((cn_size _ _).trans hK.1), rfl, ((cn_size _ _).trans hN.1), (callP_of en_Seal (seal_any K N ⟨hK.1, hK.2⟩ ⟨hN.1, hN.2⟩ [] Y (lit_lt (by kernel_rfl)) hY (by decide) (by omega)) _), fun _ _ FF3 MM3 => then_n ?_⟩))
    refine wp_ret ?_
    repeat first | refine then_ret ?_ | refine inb_ret ?_
    exact (ret_fr FF3 0 Try.results18 rfl (by rw [box_no hg, noteP_no hg]; exact ⟨rfl, MM3.turnB [(m3, NM pn)] H (List.forall_mem_cons.2 ⟨(List.mem_of_getElem? (i := 4) rfl), (fun _ h => (nomatch h))⟩) (List.forall_mem_cons.2 ⟨.inl (List.mem_of_getElem? (i := 2) rfl), (List.forall_mem_cons.2 ⟨.inl (List.mem_of_getElem? (i := 3) rfl), (List.forall_mem_cons.2 ⟨.inr ⟨_, (List.mem_of_getElem? (i := 0) rfl), rfl⟩, (fun _ h => (nomatch h))⟩)⟩)⟩)⟩))
  | some own =>
    refine wp_seq (rg_c FF1 MM1 [(1, b_ 1), (0, u_ 1 (.bool true))] 9 [14] [] (⟨rfl, ((cn_size _ _).trans hK.1), (callP_B [2, 3] en_pshared rfl (fun w Hw => by have h0 := pshared_any hk hK w Hw (distinct_names rfl (distinct_at MM1.distinct (is := [2, 3]) rfl rfl)); rw [hg] at h0; exact h0)), fun _ _ FF4 MM4 => then_n ?_⟩))
    refine wp_cond_false (FF4.ev 0 rfl) ?_
    refine wp_skip ?_
    refine then_n ?_
    refine wp_seq (rg_c FF4 MM4 [] 9 [9] [] (fun _ _ FF5 MM5 => then_n ?_))
    refine wp_seq ?_
    cases i with
    | false =>
      refine wp_seq (rg_c FF5 MM5 [(3, l_ 2 (.bool false))] 10 [23] [] (⟨rfl, rfl, fun _ _ FF6 MM6 => then_n ?_⟩))
      refine wp_cond_false (FF6.ev 0 rfl) ?_
      refine wp_skip ?_
      refine then_n ?_
      refine wp_seq (rg_dc 7 FF6 MM6 [(1, b_ 1), (0, u_ 1 (.agg (cn .u8 K))), (0, b_ 0), (1, t_ (sB (sealN K N [] Y)))] [] 9 [10] [] (⟨rfl, ((cn_size _ _).trans hK.1), (callP_B [2, 3] en_pKey rfl (fun w Hw => by have h0 := pKey_any hk hK w Hw (distinct_names rfl (distinct_at MM6.distinct (is := [2, 3]) rfl rfl)); rw [show ownN K ks = K by rw [ownN, hg]; exact hO rfl own hg] at h0; exact h0)), rfl, ((cn_size _ _).trans hN.1), (callP_of en_Seal (seal_any K N ⟨hK.1, hK.2⟩ ⟨hN.1, hN.2⟩ [] Y (lit_lt (by kernel_rfl)) hY (by decide) (by omega)) _), fun _ _ FF7 MM7 => then_n ?_⟩))
      refine wp_seq (rg_dc 10 FF7 MM7 [(3, l_ 2 (.map (some m3))), (0, b_ 1), (0, b_ 0), (1, f_ (.agg ((cn .u8 K) ++ (cn .u8 N) ++ (#[sB (sealN K N [] Y)] : Array Value)))), (1, t_ (sB Y))] [(0, r_ undef [(4, NM (mput (K, N, sealN K N [] Y) Y pn))])] 11 [] [] (⟨rfl, rfl, rfl, ((cn_size _ _).trans hK.1), rfl, ((cn_size _ _).trans hN.1), (build_ok (t := 98) (ps := #[(0, (.tmp 37)), (1, (.tmp 38)), (2, (.tmp 39))]) (by kernel_rfl) rfl (built_fits (pl := [(0, 32), (32, 12), (44, 1)]) (tot := 45) (n := 32) (by kernel_rfl) (by kernel_rfl) (ns := [12, 1]) ⟨rfl, (show (cn .u8 K).size = 32 from ((cn_size _ _).trans hK.1)), rfl, (show (cn .u8 N).size = 12 from ((cn_size _ _).trans hN.1)), rfl, rfl, rfl⟩ rfl)), (callP_of en_clone (clone_any Y hY (by omega)) _), (mapPut_ok (t := 80) (m := (.tmp 36)) (y := (.tmp 40)) (z := (.tmp 42)) (b := m3) (i := 4) (kf := boxV) (vf := noteV) (l := pn) (x := (K, N, sealN K N [] Y)) (v := Y) (by kernel_rfl) rfl rfl rfl Try.underlying80 box_law (fun p hp => (hp_.1 p hp).1) hp_.2 ⟨hK, hN, (sealN_lt _ _ _ hY), (by rw [sealN_len]; omega)⟩ rfl), fun _ _ FF8 MM8 => then_n ?_⟩))
      refine wp_seq (rg_c FF8 MM8 [] 11 [] [] (fun _ _ FF9 MM9 => then_n ?_))
      refine wp_ret ?_
      repeat first | refine then_ret ?_ | refine inb_ret ?_
      exact (ret_fr FF9 0 Try.results18 rfl (by rw [noteP_yes hg, box_real hg]; exact ⟨rfl, MM9.turnB [(m3, NM (mput (K, N, sealN K N [] Y) Y pn))] H (List.forall_mem_cons.2 ⟨(List.mem_of_getElem? (i := 4) rfl), (fun _ h => (nomatch h))⟩) (List.forall_mem_cons.2 ⟨.inl (List.mem_of_getElem? (i := 2) rfl), (List.forall_mem_cons.2 ⟨.inl (List.mem_of_getElem? (i := 3) rfl), (List.forall_mem_cons.2 ⟨.inr ⟨_, (List.mem_of_getElem? (i := 0) rfl), rfl⟩, (fun _ h => (nomatch h))⟩)⟩)⟩)⟩))
    | true =>
      refine wp_seq (rg_c FF5 MM5 [(3, l_ 2 (.bool true))] 10 [23] [] (⟨rfl, rfl, fun _ _ FF10 MM10 => then_n ?_⟩))
      refine wp_cond_true (FF10.ev 0 rfl) ?_
      refine rg_c FF10 MM10 [(1, t_ (iN Y.length)), (0, t_ (sB (List.replicate Y.length 0)))] 9 [9] [] (⟨(vI (bs_size _)), (callP_of en_repeat (repeat0_any Y.length (by omega)) _), fun _ _ FF11 MM11 => ?_⟩)
      refine then_n ?_
      refine wp_seq (rg_dc 7 FF11 MM11 [(1, b_ 1), (0, u_ 1 (.agg (cn .u8 (ownN K ks)))), (0, b_ 0), (1, t_ (sB (sealN (ownN K ks) N [] (List.replicate Y.length 0))))] [] 9 [10] [] (⟨rfl, ((cn_size _ _).trans hK.1), (callP_B [2, 3] en_pKey rfl (fun w Hw => pKey_any hk hK w Hw (distinct_names rfl (distinct_at MM11.distinct (is := [2, 3]) rfl rfl)))), rfl, ((cn_size _ _).trans hN.1), (callP_of en_Seal (seal_any (ownN K ks) N ⟨(own_ok hk hK).1, (own_ok hk hK).2⟩ ⟨hN.1, hN.2⟩ [] (List.replicate Y.length 0) (lit_lt (by kernel_rfl)) (rep0_lt (by decide)) (by decide) (by rw [List.length_replicate]; omega)) _), fun _ _ FF12 MM12 => then_n ?_⟩))
      refine wp_seq (rg_dc 10 FF12 MM12 [(3, l_ 2 (.map (some m3))), (0, b_ 1), (0, b_ 0), (1, f_ (.agg ((cn .u8 K) ++ (cn .u8 N) ++ (#[sB (sealN (ownN K ks) N [] (List.replicate Y.length 0))] : Array Value)))), (1, t_ (sB Y))] [(0, r_ undef [(4, NM (mput (K, N, sealN (ownN K ks) N [] (List.replicate Y.length 0)) Y pn))])] 11 [] [] (⟨rfl, rfl, rfl, ((cn_size _ _).trans hK.1), rfl, ((cn_size _ _).trans hN.1), (build_ok (t := 98) (ps := #[(0, (.tmp 37)), (1, (.tmp 38)), (2, (.tmp 39))]) (by kernel_rfl) rfl (built_fits (pl := [(0, 32), (32, 12), (44, 1)]) (tot := 45) (n := 32) (by kernel_rfl) (by kernel_rfl) (ns := [12, 1]) ⟨rfl, (show (cn .u8 K).size = 32 from ((cn_size _ _).trans hK.1)), rfl, (show (cn .u8 N).size = 12 from ((cn_size _ _).trans hN.1)), rfl, rfl, rfl⟩ rfl)), (callP_of en_clone (clone_any Y hY (by omega)) _), (mapPut_ok (t := 80) (m := (.tmp 36)) (y := (.tmp 40)) (z := (.tmp 42)) (b := m3) (i := 4) (kf := boxV) (vf := noteV) (l := pn) (x := (K, N, sealN (ownN K ks) N [] (List.replicate Y.length 0))) (v := Y) (by kernel_rfl) rfl rfl rfl Try.underlying80 box_law (fun p hp => (hp_.1 p hp).1) hp_.2 ⟨hK, hN, (sealN_lt _ _ _ (rep0_lt (by decide))), (by rw [sealN_len, List.length_replicate]; omega)⟩ rfl), fun _ _ FF13 MM13 => then_n ?_⟩))
      refine wp_seq (rg_c FF13 MM13 [] 11 [] [] (fun _ _ FF14 MM14 => then_n ?_))
      refine wp_ret ?_
      repeat first | refine then_ret ?_ | refine inb_ret ?_
      exact (ret_fr FF14 0 Try.results18 rfl (by rw [noteP_yes hg, box_ideal hg]; exact ⟨rfl, MM14.turnB [(m3, NM (mput (K, N, sealN (ownN K ks) N [] (List.replicate Y.length 0)) Y pn))] H (List.forall_mem_cons.2 ⟨(List.mem_of_getElem? (i := 4) rfl), (fun _ h => (nomatch h))⟩) (List.forall_mem_cons.2 ⟨.inl (List.mem_of_getElem? (i := 2) rfl), (List.forall_mem_cons.2 ⟨.inl (List.mem_of_getElem? (i := 3) rfl), (List.forall_mem_cons.2 ⟨.inr ⟨_, (List.mem_of_getElem? (i := 0) rfl), rfl⟩, (fun _ h => (nomatch h))⟩)⟩)⟩)⟩))
end Go.Proofs.Ytniplfjnpjihoaa
namespace Go.Proofs.Ytniplfjnpjihoaa
open Go.RowKit
set_option maxRecDepth 100000 in
theorem popen_any {b m1 m2 m3 : Nat} {i : Bool} {t : Value} {f : Nat} {ks : Pairs} {K : List Nat} (hk : OkP 32 ks) (hK : BytesK 32 K) {pn : Notes} (hp_ : OkQ pn) {N Z : List Nat} (hN : BytesK 12 N) (hZ : ∀ i, Z.getD i 0 < 256) (hZl : Z.length ≤ 1000000) (hf : f < 4611686018427387904) (w0 : World) (H : Has w0 [(b, oC #[.bool i, t, .map (some m1), .map (some m2), .map (some m3), iN f] 82), (m1, KM ks), (m3, NM pn)]) (hD : Distinct [(b, oC #[.bool i, t, .map (some m1), .map (some m2), .map (some m3), iN f] 82), (m1, KM ks), (m3, NM pn)]) :
    Calls Try.prog 21 #[pT b, .agg (cn .u8 K), .agg (cn .u8 N), sB Z] w0 fun e w' => e = .returned (.tuple #[sB ((openN i K N ks (mget (K, N, Z) pn) Z).getD []), .bool (openN i K N ks (mget (K, N, Z) pn) Z).isSome]) ∧ TurnB [(b, BB i t m1 m2 m3 (f + openF i K N ks (mget (K, N, Z) pn) Z))] w0 w' := by
  refine enter_fr Try.func21 rfl Try.ntmps21 (by simp) fun ac (FF : Fr 64 ac [(0, pT b), (1, .agg (cn .u8 K)), (2, .agg (cn .u8 N)), (3, sB Z)]) => ?_
  have MM : MemS (fun k => k < w0.heap.size ∧ ∀ x ∈ [(b, oC #[.bool i, t, .map (some m1), .map (some m2), .map (some m3), iN f] 82), (m1, KM ks), (m3, NM pn)], x.1 ≠ k) w0 w0 [(b, oC #[.bool i, t, .map (some m1), .map (some m2), .map (some m3), iN f] 82), (m1, KM ks), (m3, NM pn)] [] := MemS.startN H hD
  refine wp_seq (rg_c FF MM [(0, s_ 0 (.cells (cn .u8 K) 42)), (0, s_ 0 (.cells (cn .u8 N) 45)), (0, t_ (sB []))] 9 [9] [1, 2] (⟨(by kernel_rfl), fun bk => ⟨(by kernel_rfl), fun bn => ⟨(by kernel_rfl), fun _ _ FF1 MM1 => then_n ?_⟩⟩⟩))
  refine wp_seq ?_
  cases hg : mget K ks with
  | none =>
    refine wp_seq (rg_c FF1 MM1 [(1, b_ 1), (0, u_ 1 (.bool false))] 10 [17] [] (⟨rfl, ((cn_size _ _).trans hK.1), (callP_B [2, 3] en_pshared rfl (fun w Hw => by have h0 := pshared_any hk hK w Hw (distinct_names rfl (distinct_at MM1.distinct (is := [2, 3]) rfl rfl)); rw [hg] at h0; exact h0)), fun _ _ FF2 MM2 => then_n ?_⟩))
    refine wp_cond_true (FF2.ev 0 rfl) ?_
    by_cases ho : opensN K N [] Z
    · skip
      refine wp_seq (rg_c FF2 MM2 [(0, b_ 1), (0, b_ 0), (1, t_ (.tuple #[sB (plainN K N Z), .bool true]))] 9 [9] [] (⟨rfl, ((cn_size _ _).trans hK.1), rfl, ((cn_size _ _).trans hN.1), (callP_of en_Open (open_yes K N ⟨hK.1, hK.2⟩ ⟨hN.1, hN.2⟩ [] Z (lit_lt (by kernel_rfl)) hZ (by decide) (by omega) ho.1 ho) _), fun _ _ FF3 MM3 => then_n ?_⟩))
      refine wp_ret ?_
      repeat first | refine then_ret ?_ | refine inb_ret ?_
      exact (ret_tup2 FF3 1 0 Try.results21 rfl rfl (by rw [(opn_no hg).1, (opn_no hg).2, if_pos ho]; exact ⟨rfl, MM3.turnB [(b, oC #[.bool i, t, .map (some m1), .map (some m2), .map (some m3), iN f] 82)] H (List.forall_mem_cons.2 ⟨(List.mem_of_getElem? (i := 2) rfl), (fun _ h => (nomatch h))⟩) (List.forall_mem_cons.2 ⟨.inr ⟨_, (List.mem_of_getElem? (i := 0) rfl), rfl⟩, (List.forall_mem_cons.2 ⟨.inl (List.mem_of_getElem? (i := 3) rfl), (List.forall_mem_cons.2 ⟨.inl (List.mem_of_getElem? (i := 4) rfl), (fun _ h => (nomatch h))⟩)⟩)⟩)⟩))
    · skip
      refine wp_seq (rg_c FF2 MM2 [(0, b_ 1), (0, b_ 0), (1, t_ (.tuple #[sB [], .bool false]))] 9 [9] [] (⟨rfl, ((cn_size _ _).trans hK.1), rfl, ((cn_size _ _).trans hN.1), (callP_of en_Open (open_no K N ⟨hK.1, hK.2⟩ ⟨hN.1, hN.2⟩ [] Z (lit_lt (by kernel_rfl)) hZ (by decide) (by omega) ho) _), fun _ _ FF4 MM4 => then_n ?_⟩))
      refine wp_ret ?_
      repeat first | refine then_ret ?_ | refine inb_ret ?_
      exact (ret_tup2 FF4 1 0 Try.results21 rfl rfl (by rw [(opn_no hg).1, (opn_no hg).2, if_neg ho]; exact ⟨rfl, MM4.turnB [(b, oC #[.bool i, t, .map (some m1), .map (some m2), .map (some m3), iN f] 82)] H (List.forall_mem_cons.2 ⟨(List.mem_of_getElem? (i := 2) rfl), (fun _ h => (nomatch h))⟩) (List.forall_mem_cons.2 ⟨.inr ⟨_, (List.mem_of_getElem? (i := 0) rfl), rfl⟩, (List.forall_mem_cons.2 ⟨.inl (List.mem_of_getElem? (i := 3) rfl), (List.forall_mem_cons.2 ⟨.inl (List.mem_of_getElem? (i := 4) rfl), (fun _ h => (nomatch h))⟩)⟩)⟩)⟩))
  | some own =>
    refine wp_seq (rg_c FF1 MM1 [(1, b_ 1), (0, u_ 1 (.bool true))] 10 [17] [] (⟨rfl, ((cn_size _ _).trans hK.1), (callP_B [2, 3] en_pshared rfl (fun w Hw => by have h0 := pshared_any hk hK w Hw (distinct_names rfl (distinct_at MM1.distinct (is := [2, 3]) rfl rfl)); rw [hg] at h0; exact h0)), fun _ _ FF5 MM5 => then_n ?_⟩))
    refine wp_cond_false (FF5.ev 0 rfl) ?_
    refine wp_skip ?_
    refine then_n ?_
    cases hn : mget (K, N, Z) pn with
    | none =>
      refine wp_seq (rg_dc 14 FF5 MM5 [(3, l_ 2 (.map (some m3))), (0, b_ 1), (0, b_ 0), (1, f_ (.agg ((cn .u8 K) ++ (cn .u8 N) ++ (#[sB Z] : Array Value)))), (0, f_ (.tuple #[sB [], .bool false]))] [] 12 [] [] (⟨rfl, rfl, rfl, ((cn_size _ _).trans hK.1), rfl, ((cn_size _ _).trans hN.1), (build_ok (t := 98) (ps := #[(0, (.tmp 29)), (1, (.tmp 30)), (2, (.tmp 31))]) (by kernel_rfl) rfl (built_fits (pl := [(0, 32), (32, 12), (44, 1)]) (tot := 45) (n := 32) (by kernel_rfl) (by kernel_rfl) (ns := [12, 1]) ⟨rfl, (show (cn .u8 K).size = 32 from ((cn_size _ _).trans hK.1)), rfl, (show (cn .u8 N).size = 12 from ((cn_size _ _).trans hN.1)), rfl, rfl, rfl⟩ rfl)), (mapNo_ok (t := 80) (m := (.tmp 28)) (y := (.tmp 32)) (b := m3) (i := 4) (kf := boxV) (vf := noteV) (l := pn) (x := (K, N, Z)) (c := true) (z := sB []) (by kernel_rfl) rfl rfl Try.underlying80 box_law (fun p hp => (hp_.1 p hp).1) hp_.2 ⟨hK, hN, hZ, hZl⟩ rfl (by kernel_rfl) hn), fun _ _ FF6 MM6 => then_n ?_⟩))
      refine wp_seq ?_
      cases i with
      | false =>
        refine wp_seq (rg_c FF6 MM6 [(3, l_ 2 (.bool false))] 12 [39] [] (⟨rfl, rfl, fun _ _ FF7 MM7 => then_n ?_⟩))
        refine wp_cond_false (FF7.ev 0 rfl) ?_
        refine wp_skip ?_
        refine then_n ?_
        by_cases ho : opensN K N [] Z
        · skip
          refine wp_seq (rg_c FF7 MM7 [(0, b_ 1), (0, b_ 0), (1, t_ (.tuple #[sB (plainN K N Z), .bool true]))] 14 [] [] (⟨rfl, ((cn_size _ _).trans hK.1), rfl, ((cn_size _ _).trans hN.1), (callP_of en_Open (open_yes K N ⟨hK.1, hK.2⟩ ⟨hN.1, hN.2⟩ [] Z (lit_lt (by kernel_rfl)) hZ (by decide) (by omega) ho.1 ho) _), fun _ _ FF8 MM8 => then_n ?_⟩))
          refine wp_seq ?_
          refine wp_seq (rg_c FF8 MM8 [] 14 [54] [] (fun _ _ FF9 MM9 => then_n ?_))
          refine wp_cond_true (FF9.ev 0 rfl) ?_
          refine rg_c FF9 MM9 [(3, l_ 2 (iN f)), (3, s_ 2 (oC #[.bool false, t, .map (some m1), .map (some m2), .map (some m3), iN (f + 1)] 82))] 14 [] [] (⟨rfl, rfl, by omega, rfl, (by simp), (.inl rfl), rfl, fun _ _ FF10 MM10 => ?_⟩)
          refine then_n ?_
          refine wp_seq (rg_c FF10 MM10 [] 12 [13] [] (fun _ _ FF11 MM11 => then_n ?_))
          refine wp_ret ?_
          repeat first | refine then_ret ?_ | refine inb_ret ?_
          exact (ret_tup2 FF11 1 0 Try.results21 rfl rfl (by rw [(opn_real hg).1, (opn_real hg).2, if_pos ho, decide_eq_true ho]; exact ⟨rfl, MM11.turnB [(b, oC #[.bool false, t, .map (some m1), .map (some m2), .map (some m3), iN (f + 1)] 82)] H (List.forall_mem_cons.2 ⟨(List.mem_of_getElem? (i := 2) rfl), (fun _ h => (nomatch h))⟩) (List.forall_mem_cons.2 ⟨.inr ⟨_, (List.mem_of_getElem? (i := 0) rfl), rfl⟩, (List.forall_mem_cons.2 ⟨.inl (List.mem_of_getElem? (i := 3) rfl), (List.forall_mem_cons.2 ⟨.inl (List.mem_of_getElem? (i := 4) rfl), (fun _ h => (nomatch h))⟩)⟩)⟩)⟩))
        · skip
          refine wp_seq (rg_c FF7 MM7 [(0, b_ 1), (0, b_ 0), (1, t_ (.tuple #[sB [], .bool false]))] 14 [] [] (⟨rfl, ((cn_size _ _).trans hK.1), rfl, ((cn_size _ _).trans hN.1), (callP_of en_Open (open_no K N ⟨hK.1, hK.2⟩ ⟨hN.1, hN.2⟩ [] Z (lit_lt (by kernel_rfl)) hZ (by decide) (by omega) ho) _), fun _ _ FF12 MM12 => then_n ?_⟩))
          refine wp_seq ?_
          refine wp_seq (rg_c FF12 MM12 [] 14 [54] [] (fun _ _ FF13 MM13 => then_n ?_))
          refine wp_cond_false (FF13.ev 0 rfl) ?_
          refine wp_skip ?_
          refine then_n ?_
          refine wp_seq (rg_c FF13 MM13 [] 12 [13] [] (fun _ _ FF14 MM14 => then_n ?_))
          refine wp_ret ?_
          repeat first | refine then_ret ?_ | refine inb_ret ?_
          exact (ret_tup2 FF14 1 0 Try.results21 rfl rfl (by rw [(opn_real hg).1, (opn_real hg).2, if_neg ho, decide_eq_false ho, Bool.and_false]; exact ⟨rfl, MM14.turnB [(b, oC #[.bool false, t, .map (some m1), .map (some m2), .map (some m3), iN f] 82)] H (List.forall_mem_cons.2 ⟨(List.mem_of_getElem? (i := 2) rfl), (fun _ h => (nomatch h))⟩) (List.forall_mem_cons.2 ⟨.inr ⟨_, (List.mem_of_getElem? (i := 0) rfl), rfl⟩, (List.forall_mem_cons.2 ⟨.inl (List.mem_of_getElem? (i := 3) rfl), (List.forall_mem_cons.2 ⟨.inl (List.mem_of_getElem? (i := 4) rfl), (fun _ h => (nomatch h))⟩)⟩)⟩)⟩))
      | true =>
        refine wp_seq (rg_c FF6 MM6 [(3, l_ 2 (.bool true))] 12 [39] [] (⟨rfl, rfl, fun _ _ FF15 MM15 => then_n ?_⟩))
        refine wp_cond_true (FF15.ev 0 rfl) ?_
        refine wp_seq (rg_c FF15 MM15 [(1, t_ (sB []))] 10 [11] [] (⟨(callP_of en_clone (clone_any [] (lit_lt (by kernel_rfl)) (by decide)) _), fun _ _ FF16 MM16 => then_n ?_⟩))
        refine wp_ret ?_
        repeat first | refine then_ret ?_ | refine inb_ret ?_
        exact (ret_tup2 FF16 1 0 Try.results21 rfl rfl (by rw [(opn_ideal hg).1, (opn_ideal hg).2]; exact ⟨rfl, MM16.turnB [(b, oC #[.bool true, t, .map (some m1), .map (some m2), .map (some m3), iN f] 82)] H (List.forall_mem_cons.2 ⟨(List.mem_of_getElem? (i := 2) rfl), (fun _ h => (nomatch h))⟩) (List.forall_mem_cons.2 ⟨.inr ⟨_, (List.mem_of_getElem? (i := 0) rfl), rfl⟩, (List.forall_mem_cons.2 ⟨.inl (List.mem_of_getElem? (i := 3) rfl), (List.forall_mem_cons.2 ⟨.inl (List.mem_of_getElem? (i := 4) rfl), (fun _ h => (nomatch h))⟩)⟩)⟩)⟩))
    | some pl =>
      refine wp_seq (rg_dc 14 FF5 MM5 [(3, l_ 2 (.map (some m3))), (0, b_ 1), (0, b_ 0), (1, f_ (.agg ((cn .u8 K) ++ (cn .u8 N) ++ (#[sB Z] : Array Value)))), (0, f_ (.tuple #[sB pl, .bool true]))] [] 12 [] [] (⟨rfl, rfl, rfl, ((cn_size _ _).trans hK.1), rfl, ((cn_size _ _).trans hN.1), (build_ok (t := 98) (ps := #[(0, (.tmp 29)), (1, (.tmp 30)), (2, (.tmp 31))]) (by kernel_rfl) rfl (built_fits (pl := [(0, 32), (32, 12), (44, 1)]) (tot := 45) (n := 32) (by kernel_rfl) (by kernel_rfl) (ns := [12, 1]) ⟨rfl, (show (cn .u8 K).size = 32 from ((cn_size _ _).trans hK.1)), rfl, (show (cn .u8 N).size = 12 from ((cn_size _ _).trans hN.1)), rfl, rfl, rfl⟩ rfl)), (mapYes_ok (t := 80) (m := (.tmp 28)) (y := (.tmp 32)) (b := m3) (i := 4) (kf := boxV) (vf := noteV) (l := pn) (x := (K, N, Z)) (c := true) (v := pl) (by kernel_rfl) rfl rfl Try.underlying80 box_law (fun p hp => (hp_.1 p hp).1) hp_.2 ⟨hK, hN, hZ, hZl⟩ rfl hn), fun _ _ FF17 MM17 => then_n ?_⟩))
      refine wp_seq ?_
      cases i with
      | false =>
        refine wp_seq (rg_c FF17 MM17 [(3, l_ 2 (.bool false))] 12 [39] [] (⟨rfl, rfl, fun _ _ FF18 MM18 => then_n ?_⟩))
        refine wp_cond_false (FF18.ev 0 rfl) ?_
        refine wp_skip ?_
        refine then_n ?_
        by_cases ho : opensN K N [] Z
        · skip
          refine wp_seq (rg_c FF18 MM18 [(0, b_ 1), (0, b_ 0), (1, t_ (.tuple #[sB (plainN K N Z), .bool true]))] 14 [] [] (⟨rfl, ((cn_size _ _).trans hK.1), rfl, ((cn_size _ _).trans hN.1), (callP_of en_Open (open_yes K N ⟨hK.1, hK.2⟩ ⟨hN.1, hN.2⟩ [] Z (lit_lt (by kernel_rfl)) hZ (by decide) (by omega) ho.1 ho) _), fun _ _ FF19 MM19 => then_n ?_⟩))
          refine wp_seq ?_
          refine wp_seq (rg_c FF19 MM19 [] 14 [54] [] (fun _ _ FF20 MM20 => then_n ?_))
          refine wp_cond_false (FF20.ev 0 rfl) ?_
          refine wp_skip ?_
          refine then_n ?_
          refine wp_seq (rg_c FF20 MM20 [] 12 [13] [] (fun _ _ FF21 MM21 => then_n ?_))
          refine wp_ret ?_
          repeat first | refine then_ret ?_ | refine inb_ret ?_
          exact (ret_tup2 FF21 1 0 Try.results21 rfl rfl (by rw [(opn_real hg).1, (opn_real hg).2, if_pos ho, decide_eq_true ho]; exact ⟨rfl, MM21.turnB [(b, oC #[.bool false, t, .map (some m1), .map (some m2), .map (some m3), iN f] 82)] H (List.forall_mem_cons.2 ⟨(List.mem_of_getElem? (i := 2) rfl), (fun _ h => (nomatch h))⟩) (List.forall_mem_cons.2 ⟨.inr ⟨_, (List.mem_of_getElem? (i := 0) rfl), rfl⟩, (List.forall_mem_cons.2 ⟨.inl (List.mem_of_getElem? (i := 3) rfl), (List.forall_mem_cons.2 ⟨.inl (List.mem_of_getElem? (i := 4) rfl), (fun _ h => (nomatch h))⟩)⟩)⟩)⟩))
        · skip
          refine wp_seq (rg_c FF18 MM18 [(0, b_ 1), (0, b_ 0), (1, t_ (.tuple #[sB [], .bool false]))] 14 [] [] (⟨rfl, ((cn_size _ _).trans hK.1), rfl, ((cn_size _ _).trans hN.1), (callP_of en_Open (open_no K N ⟨hK.1, hK.2⟩ ⟨hN.1, hN.2⟩ [] Z (lit_lt (by kernel_rfl)) hZ (by decide) (by omega) ho) _), fun _ _ FF22 MM22 => then_n ?_⟩))
          refine wp_seq ?_
          refine wp_seq (rg_c FF22 MM22 [] 14 [54] [] (fun _ _ FF23 MM23 => then_n ?_))
          refine wp_cond_false (FF23.ev 0 rfl) ?_
          refine wp_skip ?_
          refine then_n ?_
          refine wp_seq (rg_c FF23 MM23 [] 12 [13] [] (fun _ _ FF24 MM24 => then_n ?_))
          refine wp_ret ?_
          repeat first | refine then_ret ?_ | refine inb_ret ?_
          exact (ret_tup2 FF24 1 0 Try.results21 rfl rfl (by rw [(opn_real hg).1, (opn_real hg).2, if_neg ho, decide_eq_false ho, Bool.and_false]; exact ⟨rfl, MM24.turnB [(b, oC #[.bool false, t, .map (some m1), .map (some m2), .map (some m3), iN f] 82)] H (List.forall_mem_cons.2 ⟨(List.mem_of_getElem? (i := 2) rfl), (fun _ h => (nomatch h))⟩) (List.forall_mem_cons.2 ⟨.inr ⟨_, (List.mem_of_getElem? (i := 0) rfl), rfl⟩, (List.forall_mem_cons.2 ⟨.inl (List.mem_of_getElem? (i := 3) rfl), (List.forall_mem_cons.2 ⟨.inl (List.mem_of_getElem? (i := 4) rfl), (fun _ h => (nomatch h))⟩)⟩)⟩)⟩))
      | true =>
        refine wp_seq (rg_c FF17 MM17 [(3, l_ 2 (.bool true))] 12 [39] [] (⟨rfl, rfl, fun _ _ FF25 MM25 => then_n ?_⟩))
        refine wp_cond_true (FF25.ev 0 rfl) ?_
        refine wp_seq (rg_c FF25 MM25 [(1, t_ (sB pl))] 10 [11] [] (⟨(callP_of en_clone (clone_any pl (hp_.1 _ (mget_mem hn)).2.1 ((hp_.1 _ (mget_mem hn)).2.2)) _), fun _ _ FF26 MM26 => then_n ?_⟩))
        refine wp_ret ?_
        repeat first | refine then_ret ?_ | refine inb_ret ?_
        exact (ret_tup2 FF26 1 0 Try.results21 rfl rfl (by rw [(opn_ideal hg).1, (opn_ideal hg).2]; exact ⟨rfl, MM26.turnB [(b, oC #[.bool true, t, .map (some m1), .map (some m2), .map (some m3), iN f] 82)] H (List.forall_mem_cons.2 ⟨(List.mem_of_getElem? (i := 2) rfl), (fun _ h => (nomatch h))⟩) (List.forall_mem_cons.2 ⟨.inr ⟨_, (List.mem_of_getElem? (i := 0) rfl), rfl⟩, (List.forall_mem_cons.2 ⟨.inl (List.mem_of_getElem? (i := 3) rfl), (List.forall_mem_cons.2 ⟨.inl (List.mem_of_getElem? (i := 4) rfl), (fun _ h => (nomatch h))⟩)⟩)⟩)⟩))
set_option maxRecDepth 100000 in
theorem pforged_any {b m1 m2 m3 : Nat} {i : Bool} {t : Value} {f : Nat} (w0 : World) (H : Has w0 [(b, oC #[.bool i, t, .map (some m1), .map (some m2), .map (some m3), iN f] 82)]) (hD : Distinct [(b, oC #[.bool i, t, .map (some m1), .map (some m2), .map (some m3), iN f] 82)]) :
    Calls Try.prog 23 #[pT b] w0 fun e w' => e = .returned (iN f) ∧ TurnB [] w0 w' := by
  refine enter_fr Try.func23 rfl Try.ntmps23 (by simp) fun ac (FF : Fr 9 ac [(0, pT b)]) => ?_
  have MM : MemS (fun k => k < w0.heap.size ∧ ∀ x ∈ [(b, oC #[.bool i, t, .map (some m1), .map (some m2), .map (some m3), iN f] 82)], x.1 ≠ k) w0 w0 [(b, oC #[.bool i, t, .map (some m1), .map (some m2), .map (some m3), iN f] 82)] [] := MemS.startN H hD
  refine wp_seq (rg_c FF MM [] 3 [] [] (fun _ _ FF1 MM1 => then_n ?_))
  refine wp_seq ?_
  refine wp_seq (rg_c FF1 MM1 [(1, f_ (.bool false))] 3 [4] [] (⟨(ptrSome_ok (t := 25) (t' := 25) (x := (.tmp 3)) (y := (.const (.pointer none))) (by kernel_rfl) rfl rfl Try.underlying25), fun _ _ FF2 MM2 => then_n ?_⟩))
  refine wp_cond_false (FF2.ev 0 rfl) ?_
  refine wp_skip ?_
  refine then_n ?_
  refine wp_seq (rg_c FF2 MM2 [(3, l_ 0 (iN f))] 3 [] [] (⟨rfl, rfl, fun _ _ FF3 MM3 => then_n ?_⟩))
  refine wp_ret ?_
  repeat first | refine then_ret ?_ | refine inb_ret ?_
  exact (ret_fr FF3 0 Try.results23 rfl ⟨rfl, MM3.turnB [] H (fun _ h => (nomatch h)) (List.forall_mem_cons.2 ⟨.inl (List.mem_of_getElem? (i := 0) rfl), (fun _ h => (nomatch h))⟩)⟩)
/-- Blocks that are new since base, each apart from the others. -/
def NewAll (base : Nat) (w : World) (K : Blks) : Prop := Has w K ∧ Distinct K ∧ ∀ x ∈ K, base ≤ x.1
theorem newAll {w0 w : World} {L : Blks} {R : List Row} (M : MemS (fun k => k < w0.heap.size) w0 w L R) {is : List Nat} {K : Blks} (hn : apartB is = true) (hK : atL L is = some K) : NewAll w0.heap.size w K :=
  ⟨atL_has hK M.hasL, distinct_at M.distinct hn hK, fun x hx => by
    obtain ⟨i, _, hi⟩ := atL_mem hK x hx
    exact Nat.not_lt.1 (M.base i x hi)⟩
set_option maxRecDepth 100000 in
theorem pnew_any (i : Bool) (tp : Option Addr) (w0 : World) : Calls Try.prog 9 #[.bool i, .pointer tp] w0 fun e w' => ∃ b m1 m2 m3 : Nat, e = .returned (pT b) ∧ Below w0.heap.size w0 w' ∧ NewAll w0.heap.size w' [(b, BB i (.pointer tp) m1 m2 m3 0), (m1, KM []), (m2, KM []), (m3, NM [])] := by
  refine enter_fr Try.func9 rfl Try.ntmps9 (by simp) fun ac (FF : Fr 12 ac [(0, .bool i), (1, .pointer tp)]) => ?_
  have MM := MemS.start w0
  refine wp_seq (rg_c FF MM [] 5 [] [] (fun _ _ FF1 MM1 => then_n ?_))
  refine wp_seq (wp_region_list ?_)
  refine rp_c 3 FF1 MM1 [(2, n_ (.map none) (KM []))] 8 [] [0, 1] (⟨(makeMap_ok (t := 78) (by kernel_rfl)), fun m1 => fun _ _ FF2 MM2 => ?_⟩)
  refine rp_c 1 FF2 MM2 [(0, n_ (.map none) (KM []))] 9 [] [] (⟨(makeMap_ok (t := 79) (by kernel_rfl)), fun m2 => fun _ _ FF3 MM3 => ?_⟩)
  refine rp_c 1 FF3 MM3 [(0, n_ (.map none) (NM []))] 9 [9] [] (⟨(makeMap_ok (t := 80) (by kernel_rfl)), fun m3 => fun _ _ FF4 MM4 => ?_⟩)
  refine rp_c 2 FF4 MM4 [(0, t_ (aG #[.bool i, .pointer tp, .map (some m1), .map (some m2), .map (some m3), iN 0]))] 5 [11] [] (⟨(by kernel_rfl), fun b => fun _ _ FF5 MM5 => ?_⟩)
  refine rp_c 1 FF5 MM5 [] 5 [] [] (fun _ _ FF6 MM6 => ?_)
  refine wpl_nil (then_n ?_)
  refine wp_ret ?_
  repeat first | refine then_ret ?_ | refine inb_ret ?_
  exact (ret_fr FF6 0 Try.results9 rfl ⟨b, m1, m2, m3, rfl, MM6.below, newAll MM6 (is := [0, 3, 2, 1]) rfl rfl⟩)
end Go.Proofs.Ytniplfjnpjihoaa
namespace Go.Proofs.Ytniplfjnpjihoaa
open Go.RowKit
theorem en_keyL : Enters Try.prog 11 := fun args w => by simp [go_sem]
theorem en_nonceL : Enters Try.prog 12 := fun args w => by simp [go_sem]
theorem en_fairL : Enters Try.prog 7 := fun args w => by simp [go_sem]
theorem en_wakesL : Enters Try.prog 8 := fun args w => by simp [go_sem]
/-- The laws' keys, nonces, names by small numbers. -/
def keyW (n : Nat) : List Nat := [n % 4, 7, 0, 0, 0, 0, 0, 0, 0, 0, 0, 0, 0, 0, 0, 0, 0, 0, 0, 0, 0, 0, 0, 0, 0, 0, 0, 0, 0, 0, 0, 0]
def nonW (n : Nat) : List Nat := [n % 3, 0, 0, 0, 0, 0, 0, 0, 0, 0, 0, 0]
theorem cons_ltK {a : Nat} {X : List Nat} (ha : a < 256) (hX : ∀ i, X.getD i 0 < 256) : ∀ i, (a :: X).getD i 0 < 256
  | 0 => ha
  | i + 1 => hX i
theorem keyW_ok (n : Nat) : BytesK 32 (keyW n) := ⟨rfl, cons_ltK (by omega) (lit_lt (by kernel_rfl))⟩
theorem nonW_ok (n : Nat) : BytesK 12 (nonW n) := ⟨rfl, cons_ltK (by omega) (lit_lt (by kernel_rfl))⟩
theorem keyW_4 (n : Nat) : keyW (n % 4) = keyW n := by unfold keyW; rw [Nat.mod_mod]
/-- What a Share comes to. -/
theorem share_get {i : Bool} {n : Nat} {K : List Nat} {ks : Pairs} (Y : List Nat) : ∃ own, mget K (shareK i n K ks Y) = some own := by
  cases h : mget K ks with
  | some v => exact ⟨v, by rw [(share_yes h Y).1]; exact h⟩
  | none => exact ⟨_, by rw [(share_no h Y).1, ← mput_new _ h]; exact mget_put _ _ _⟩
set_option maxRecDepth 100000 in
theorem keyL_any (n : Nat) (w0 : World) :
    Calls Try.prog 11 #[iB n] w0 fun e w' => e = .returned (.agg (cn .u8 (keyW n))) ∧ Below w0.heap.size w0 w' := by
  refine enter_fr Try.func11 rfl Try.ntmps11 (by simp) fun ac (FF : Fr 6 ac [(0, iB n)]) => ?_
  have MM := MemS.start w0
  refine wp_seq (rg_c FF MM [(0, s_ 0 (.cells (cn .u8 (List.replicate 32 0)) 42))] 3 [] [] (⟨(by kernel_rfl), fun br => fun _ _ FF1 MM1 => then_n ?_⟩))
  refine wp_seq (rg_c FF1 MM1 [(2, t_ (.agg (cn .u8 ([n % 4, 7, 0, 0, 0, 0, 0, 0, 0, 0, 0, 0, 0, 0, 0, 0, 0, 0, 0, 0, 0, 0, 0, 0, 0, 0, 0, 0, 0, 0, 0, 0])))), (0, b_ 0)] 0 [2] [] (⟨by decide, (by kernel_rfl), rfl, ((cn_size _ _).trans (List.length_replicate ..)), ((cn_size _ _).trans rfl), (cn_one _ _), rfl, fun _ _ FF2 MM2 => then_n ?_⟩))
  refine wp_ret ?_
  repeat first | refine then_ret ?_ | refine inb_ret ?_
  exact (retc FF2 MM2 (k := 32) (i := 0) (j := 0) Try.results11 rfl rfl Try.underlying42 rfl (by kernel_rfl) ((cn_size _ _).trans rfl) ⟨rfl, MM2.below⟩)
set_option maxRecDepth 100000 in
theorem nonceL_any (n : Nat) (w0 : World) :
    Calls Try.prog 12 #[iB n] w0 fun e w' => e = .returned (.agg (cn .u8 (nonW n))) ∧ Below w0.heap.size w0 w' := by
  refine enter_fr Try.func12 rfl Try.ntmps12 (by simp) fun ac (FF : Fr 6 ac [(0, iB n)]) => ?_
  have MM := MemS.start w0
  refine wp_seq (rg_c FF MM [(0, s_ 0 (.cells (cn .u8 (List.replicate 12 0)) 45))] 3 [] [] (⟨(by kernel_rfl), fun br => fun _ _ FF1 MM1 => then_n ?_⟩))
  refine wp_seq (rg_c FF1 MM1 [(2, t_ (.agg (cn .u8 ([n % 3, 0, 0, 0, 0, 0, 0, 0, 0, 0, 0, 0])))), (0, b_ 0)] 0 [2] [] (⟨by decide, (by kernel_rfl), rfl, ((cn_size _ _).trans (List.length_replicate ..)), ((cn_size _ _).trans rfl), (cn_one _ _), rfl, fun _ _ FF2 MM2 => then_n ?_⟩))
  refine wp_ret ?_
  repeat first | refine then_ret ?_ | refine inb_ret ?_
  exact (retc FF2 MM2 (k := 12) (i := 0) (j := 0) Try.results12 rfl rfl Try.underlying45 rfl (by kernel_rfl) ((cn_size _ _).trans rfl) ⟨rfl, MM2.below⟩)
/-- In the real game what stands for a key is it. -/
def OwnI (i : Bool) (ks : Pairs) : Prop := i = false → ∀ p ∈ ks, p.2 = p.1
theorem ownI_true (ks : Pairs) : OwnI true ks := fun h => (nomatch h)
theorem OwnI.get {i : Bool} {K : List Nat} {ks : Pairs} (h : OwnI i ks) : i = false → ∀ own, mget K ks = some own → own = K := fun hi _ hg => h hi _ (mget_mem hg)
theorem real_open (K N : List Nat) (ks : Pairs) (lk : Option (List Nat)) (X : List Nat) : openN false K N ks lk (sealN K N [] X) = some X := by
  unfold openN
  rw [if_neg (by simp), if_pos (seal_opens K N [] X).1, (seal_opens K N [] X).2]
theorem real_F1 {K N own : List Nat} {ks : Pairs} (h : mget K ks = some own) (X : List Nat) : openF false K N ks none (sealN K N [] X) = 1 := if_pos (by rw [h]; simp [(seal_opens K N [] X).1])
theorem ideal_F (K N : List Nat) (ks : Pairs) (lk : Option (List Nat)) (Z : List Nat) : openF true K N ks lk Z = 0 := if_neg (by simp)
theorem okQ_nil : OkQ [] := ⟨fun _ h => (nomatch h), List.Pairwise.nil⟩
theorem OkQ.note {i : Bool} {K N X : List Nat} {ks : Pairs} {pn : Notes} (h : OkQ pn) (hK : BytesK 32 K) (hN : BytesK 12 N) (hX : ∀ i, X.getD i 0 < 256) (hl : X.length ≤ 900000) : OkQ (noteP i K N ks X pn) := by
  unfold noteP
  split
  · refine ⟨fun p hp => ?_, h.2.put _ _⟩
    rcases mem_mput hp with rfl | hp
    · exact ⟨⟨hK, hN, boxN_lt i K N ks hX, by show (boxN i K N ks X).length ≤ 1000000; rw [boxN_len]; omega⟩, hX, by show X.length ≤ 1000000; omega⟩
    · exact h.1 p hp
  · exact h
/-- A book that was made. -/
def NewBk (i : Bool) (tp : Option Addr) (w w' : World) (v : Value) : Prop := ∃ b m1 m2 m3 : Nat, v = pT b ∧ Below w.heap.size w w' ∧ NewAll w.heap.size w' [(b, BB i (.pointer tp) m1 m2 m3 0), (m1, KM []), (m2, KM []), (m3, NM [])]
theorem pnew_E (i : Bool) (tp : Option Addr) (w0 : World) : Calls Try.prog 9 #[.bool i, .pointer tp] w0 fun e w' => ∃ v, e = .returned v ∧ NewBk i tp w0 w' v :=
  (pnew_any i tp w0).mono fun _ _ ⟨b, m1, m2, m3, h1, h2, h3⟩ => ⟨_, h1, b, m1, m2, m3, rfl, h2, h3⟩
/-- A tape that was made. -/
def NewT (X : List Nat) (w w' : World) (v : Value) : Prop := ∃ g, v = pT g ∧ Below w.heap.size w w' ∧ w.heap.size ≤ g ∧ w'.heap[g]? = some (TB X 0)
set_option maxRecDepth 100000 in
theorem tnew_any (X : List Nat) (w0 : World) : Calls Try.prog 10 #[sB X] w0 fun e w' => ∃ v, e = .returned v ∧ NewT X w0 w' v := by
  refine enter_fr Try.func10 rfl Try.ntmps10 (by simp) fun ac (FF : Fr 6 ac [(0, sB X)]) => ?_
  have MM := MemS.start w0
  refine wp_seq (rg_c FF MM [] 3 [] [] (fun _ _ FF1 MM1 => then_n ?_))
  refine wp_seq (rg_c FF1 MM1 [(1, t_ (aG #[sB X, iN 0]))] 0 [2] [] (⟨(by kernel_rfl), fun bt => fun _ _ FF2 MM2 => then_n ?_⟩))
  refine wp_ret ?_
  repeat first | refine then_ret ?_ | refine inb_ret ?_
  exact (ret_fr FF2 0 Try.results10 rfl ⟨_, rfl, bt, rfl, MM2.below, MM2.fresh 0 rfl, MM2.get 0 rfl⟩)
end Go.Proofs.Ytniplfjnpjihoaa
namespace Go.Proofs.Ytniplfjnpjihoaa
open Go.RowKit
def wK : List Nat := [1, 0, 0, 0, 0, 0, 0, 0, 0, 0, 0, 0, 0, 0, 0, 0, 0, 0, 0, 0, 0, 0, 0, 0, 0, 0, 0, 0, 0, 0, 0, 0]
def wT : List Nat := [97, 98, 99, 0, 0, 0, 0, 0, 0, 0, 0, 0, 0, 0, 0, 0, 0, 0, 0, 0, 0, 0, 0, 0, 0, 0, 0, 0, 0, 0, 0, 0]
def wL : List Nat := [2, 0, 0, 0, 0, 0, 0, 0, 0, 0, 0, 0, 0, 0, 0, 0, 0, 0, 0, 0, 0, 0, 0, 0, 0, 0, 0, 0, 0, 0, 0, 0]
def wN : List Nat := [2, 0, 0, 0, 0, 0, 0, 0, 0, 0, 0, 0]
theorem wK_ok : BytesK 32 wK := ⟨rfl, (lit_lt (by kernel_rfl))⟩
theorem wT_ok : BytesK 32 wT := ⟨rfl, (lit_lt (by kernel_rfl))⟩
theorem wL_ok : BytesK 32 wL := ⟨rfl, (lit_lt (by kernel_rfl))⟩
theorem wN_ok : BytesK 12 wN := ⟨rfl, (lit_lt (by kernel_rfl))⟩
theorem wKK_ok : OkP 32 [(wK, wK)] := ⟨fun p hp => by rw [List.mem_singleton.1 hp]; exact ⟨wK_ok, wK_ok⟩, List.pairwise_singleton _ _⟩
theorem wKT_ok : OkP 32 [(wK, wT)] := ⟨fun p hp => by rw [List.mem_singleton.1 hp]; exact ⟨wK_ok, wT_ok⟩, List.pairwise_singleton _ _⟩
theorem wake1 : shareK false 32 wK [] [] = [(wK, wK)] := by decide
theorem wake2 : shareK true 32 wK [] [97, 98, 99] = [(wK, wT)] := by decide
theorem wake3 : boxN true wK wN [(wK, wT)] [121] = sealN wT wN [] [0] := box_ideal (own := wT) (by decide) [121]
theorem wake4 : noteP true wK wN [(wK, wT)] [121] [] = [((wK, wN, sealN wT wN [] [0]), [121])] := by rw [noteP_yes (own := wT) (by decide), wake3]; rfl
theorem wake5 : OkQ [((wK, wN, sealN wT wN [] [0]), [121])] := wake4 ▸ okQ_nil.note wK_ok wN_ok (lit_lt (by kernel_rfl)) (by decide)
theorem wake6 : openN false wK wN [(wK, wK)] (mget (wK, wN, sealN wK wN [] [120]) []) (sealN wK wN [] [120]) = some [120] := real_open _ _ _ _ _
theorem wake7 : 0 + openF false wK wN [(wK, wK)] (mget (wK, wN, sealN wK wN [] [120]) []) (sealN wK wN [] [120]) = 1 := by
  rw [mget, real_F1 (own := wK) (by decide)]
theorem wake8 (Z : List Nat) : openN true wK wN [(wK, wT)] (mget (wK, wN, Z) []) Z = none := (opn_ideal (own := wT) (by decide)).1
theorem wake9 (lk : Option (List Nat)) (Z : List Nat) : 0 + openF true wK wN [(wK, wT)] lk Z = 0 := congrArg (0 + ·) (ideal_F _ _ _ _ _)
theorem wakeA : openN true wK wN [(wK, wT)] (mget (wK, wN, sealN wT wN [] [0]) [((wK, wN, sealN wT wN [] [0]), [121])]) (sealN wT wN [] [0]) = some [121] := (opn_ideal (own := wT) (by decide)).1.trans (if_pos rfl)
theorem wakeB : ownN wK [(wK, wT)] = wT := by decide
theorem wakeC : ownN wK [(wK, wK)] = wK := by decide
theorem wakeD : (mget wK [(wK, wK)]).isSome = true := by decide
theorem wakeE : (mget wL [(wK, wK)]).isSome = false := by decide
set_option maxRecDepth 100000 in
theorem wakes_any  (w0 : World) :
    Calls Try.prog 8 #[] w0 fun e w' => e = .returned (.bool true) ∧ Below w0.heap.size w0 w' := by
  refine enter_fr Try.func8 rfl Try.ntmps8 (by simp) fun ac (FF : Fr 119 ac []) => ?_
  have MM := MemS.start w0
  refine wp_seq (rg_c FF MM [] 1 [] [] (fun _ _ FF1 MM1 => then_n ?_))
  refine wp_seq (rg_c FF1 MM1 [(0, t_ (.agg (cn .u8 wK))), (0, t_ (.agg (cn .u8 wN))), (0, s_ 0 (.cells (cn .u8 (List.replicate 32 0)) 42)), (0, s_ 0 (.cells (cn .u8 (List.replicate 12 0)) 45)), (0, b_ 1), (0, b_ 0)] 3 [] [] (⟨(Eq.trans (show _ = some (cn .u8 ([1, 0, 0, 0, 0, 0, 0, 0, 0, 0, 0, 0, 0, 0, 0, 0, 0, 0, 0, 0, 0, 0, 0, 0, 0, 0, 0, 0, 0, 0, 0, 0])) by kernel_rfl) (congrArg some (Value.agg.inj rfl))), (Eq.trans (show _ = some (cn .u8 ([2, 0, 0, 0, 0, 0, 0, 0, 0, 0, 0, 0])) by kernel_rfl) (congrArg some (Value.agg.inj rfl))), (by kernel_rfl), fun bk => ⟨(by kernel_rfl), fun bn => ⟨rfl, ((cn_size _ _).trans (List.length_replicate ..)), ((cn_size _ _).trans wK_ok.1), (cn_one _ _), rfl, rfl, ((cn_size _ _).trans (List.length_replicate ..)), ((cn_size _ _).trans wN_ok.1), (cn_one _ _), rfl, fun _ _ FF2 MM2 => then_n ?_⟩⟩⟩))
  refine wp_seq (wp_region_list ?_)
  refine st_callE [2, 1, 0, 15] FF2 (d := 15) (mk := fun v => v) en_pnew rfl rfl (pnew_E false none _) rfl (by kernel_rfl) (by decide) fun ac4 wd4 lv3 FF4 hr5 => ?_
  obtain ⟨r, r1, r2, r3, rfl, hB_r, hN_r⟩ := hr5
  have MM6 : MemS (fun k => k < w0.heap.size) w0 wd4 [(r, oC #[.bool false, .pointer none, .map (some r1), .map (some r2), .map (some r3), iN 0] 82), (r1, KM []), (r2, KM []), (r3, NM []), (bn, .cells (cn .u8 wN) 45), (bk, .cells (cn .u8 wK) 42)] [] := MM2.addAll hB_r hN_r.1 hN_r.2.1 hN_r.2.2
  refine st_callE [15, 2, 1, 0, 16] FF4 (d := 16) (mk := fun v => v) en_tnew rfl rfl (tnew_any ([97, 98, 99]) _) rfl (by kernel_rfl) (by decide) fun ac8 wd8 lv7 FF8 hr9 => ?_
  obtain ⟨gt, rfl, hB_gt, hf_gt, hb_gt⟩ := hr9
  have MM10 := MM6.keep hB_gt
  have MM11 : MemS (fun k => k < w0.heap.size) w0 wd8 [(gt, oC #[sB ([97, 98, 99]), iN 0] 84), (r, oC #[.bool false, .pointer none, .map (some r1), .map (some r2), .map (some r3), iN 0] 82), (r1, KM []), (r2, KM []), (r3, NM []), (bn, .cells (cn .u8 wN) 45), (bk, .cells (cn .u8 wK) 42)] [] := MM6.addFresh MM10 hb_gt hf_gt
  refine st_callE [15, 2, 1, 0, 17] FF8 (d := 17) (mk := fun v => v) en_pnew rfl rfl (pnew_E true (some ⟨gt, 0, none⟩) _) rfl (by kernel_rfl) (by decide) fun ac13 wd13 lv12 FF13 hr14 => ?_
  obtain ⟨z, z1, z2, z3, rfl, hB_z, hN_z⟩ := hr14
  have MM15 : MemS (fun k => k < w0.heap.size) w0 wd13 [(z, oC #[.bool true, pT gt, .map (some z1), .map (some z2), .map (some z3), iN 0] 82), (z1, KM []), (z2, KM []), (z3, NM []), (gt, oC #[sB ([97, 98, 99]), iN 0] 84), (r, oC #[.bool false, .pointer none, .map (some r1), .map (some r2), .map (some r3), iN 0] 82), (r1, KM []), (r2, KM []), (r3, NM []), (bn, .cells (cn .u8 wN) 45), (bk, .cells (cn .u8 wK) 42)] [] := MM11.addAll hB_z hN_z.1 hN_z.2.1 hN_z.2.2
  refine rp_c 2 FF13 MM15 [] 5 [] [] (fun _ _ FF16 MM16 => ?_)
  refine wpl_nil (then_n ?_)
  refine wp_seq ?_
  refine wp_seq (rg_c FF16 MM16 [(1, f_ (.bool false)), (2, f_ (.bool false))] 5 [23] [] (⟨(ptrSome_ok (t := 25) (t' := 25) (x := (.tmp 18)) (y := (.const (.pointer none))) (by kernel_rfl) rfl rfl Try.underlying25), (ptrSome_ok (t := 25) (t' := 25) (x := (.tmp 21)) (y := (.const (.pointer none))) (by kernel_rfl) rfl rfl Try.underlying25), fun _ _ FF17 MM17 => then_n ?_⟩))
  refine wp_cond_false (FF17.ev 0 rfl) ?_
  refine wp_skip ?_
  refine then_n ?_
  refine wp_seq (rg_c FF17 MM17 [(1, b_ 10), (0, c_ (.tuple #[]) [(6, KM ([(wK, wK)]))])] 5 [] [] (⟨rfl, ((cn_size _ _).trans wK_ok.1), (callU_B [5, 6] en_pshare rfl rfl (fun w Hw => by have h0 := pshare_real (K := wK) (okP_nil _) ⟨wK_ok.1, wK_ok.2⟩ w Hw (distinct_names rfl (distinct_at MM17.distinct (is := [5, 6]) rfl rfl)); rw [wake1] at h0; exact h0)), fun _ _ FF18 MM18 => then_n ?_⟩))
  refine wp_seq (rg_c FF18 MM18 [(1, b_ 10), (0, c_ (.tuple #[]) [(1, KM ([(wK, wT)])), (4, oC #[sB (([97, 98, 99]).drop (shareU true 32 wK [])), iN (0 + shareU true 32 wK [])] 84)])] 5 [] [] (⟨rfl, ((cn_size _ _).trans wK_ok.1), (callU_B [0, 1, 4] en_pshare rfl rfl (fun w Hw => by have h0 := pshare_any (K := wK) (okP_nil _) ⟨wK_ok.1, wK_ok.2⟩ (lit_lt (by kernel_rfl)) (by decide) w Hw (distinct_names rfl (distinct_at MM18.distinct (is := [0, 1, 4]) rfl rfl)); rw [wake2] at h0; exact h0)), fun _ _ FF19 MM19 => then_n ?_⟩))
  refine wp_seq (rg_c FF19 MM19 [(0, b_ 10), (0, b_ 9), (0, t_ (sB (sealN wK wN [] [120])))] 6 [] [] (⟨rfl, ((cn_size _ _).trans wK_ok.1), rfl, ((cn_size _ _).trans wN_ok.1), (callP_of en_Seal (seal_any wK wN ⟨wK_ok.1, wK_ok.2⟩ ⟨wN_ok.1, wN_ok.2⟩ [] [120] (lit_lt (by kernel_rfl)) (lit_lt (by kernel_rfl)) (by decide) (by decide)) _), fun _ _ FF20 MM20 => then_n ?_⟩))
  refine wp_seq (rg_c FF20 MM20 [(1, b_ 10), (0, b_ 9), (1, c_ (.tuple #[sB [120], .bool true]) [(5, oC #[.bool false, .pointer none, .map (some r1), .map (some r2), .map (some r3), iN 1] 82)])] 8 [] [] (⟨rfl, ((cn_size _ _).trans wK_ok.1), rfl, ((cn_size _ _).trans wN_ok.1), (callU_B [5, 6, 8] en_popen rfl rfl (fun w Hw => by have h0 := popen_any (K := wK) wKK_ok ⟨wK_ok.1, wK_ok.2⟩ okQ_nil (N := wN) (Z := (sealN wK wN [] [120])) ⟨wN_ok.1, wN_ok.2⟩ (sealN_lt _ _ _ (lit_lt (by kernel_rfl))) (by rw [sealN_len]; decide) (by omega) w Hw (distinct_names rfl (distinct_at MM20.distinct (is := [5, 6, 8]) rfl rfl)); rw [wake6, wake7] at h0; exact h0)), fun _ _ FF21 MM21 => then_n ?_⟩))
  refine wp_seq (rg_c FF21 MM21 [(1, b_ 10), (0, b_ 9), (1, c_ (.tuple #[sB [], .bool false]) [(0, oC #[.bool true, pT gt, .map (some z1), .map (some z2), .map (some z3), iN 0] 82)])] 8 [9] [] (⟨rfl, ((cn_size _ _).trans wK_ok.1), rfl, ((cn_size _ _).trans wN_ok.1), (callU_B [0, 1, 3] en_popen rfl rfl (fun w Hw => by have h0 := popen_any (K := wK) wKT_ok ⟨wK_ok.1, wK_ok.2⟩ okQ_nil (N := wN) (Z := (sealN wK wN [] [120])) ⟨wN_ok.1, wN_ok.2⟩ (sealN_lt _ _ _ (lit_lt (by kernel_rfl))) (by rw [sealN_len]; decide) (by omega) w Hw (distinct_names rfl (distinct_at MM21.distinct (is := [0, 1, 3]) rfl rfl)); rw [wake8, wake9] at h0; exact h0)), fun _ _ FF22 MM22 => then_n ?_⟩))
  refine wp_seq (rg_c FF22 MM22 [(1, b_ 10), (0, b_ 9), (0, c_ (sB (sealN wT wN [] [0])) [(3, NM ([((wK, wN, sealN wT wN [] [0]), [121])]))])] 11 [] [] (⟨rfl, ((cn_size _ _).trans wK_ok.1), rfl, ((cn_size _ _).trans wN_ok.1), (callU_B [0, 1, 3] en_pseal rfl rfl (fun w Hw => by have h0 := pseal_any (K := wK) wKT_ok ⟨wK_ok.1, wK_ok.2⟩ okQ_nil (N := wN) (Y := [121]) ⟨wN_ok.1, wN_ok.2⟩ (lit_lt (by kernel_rfl)) (by decide) (ownI_true _).get w Hw (distinct_names rfl (distinct_at MM22.distinct (is := [0, 1, 3]) rfl rfl)); rw [wake3, wake4] at h0; exact h0)), fun _ _ FF23 MM23 => then_n ?_⟩))
  refine wp_seq (rg_c FF23 MM23 [(1, b_ 10), (0, b_ 9), (1, c_ (.tuple #[sB [121], .bool true]) [(0, oC #[.bool true, pT gt, .map (some z1), .map (some z2), .map (some z3), iN 0] 82)])] 13 [] [] (⟨rfl, ((cn_size _ _).trans wK_ok.1), rfl, ((cn_size _ _).trans wN_ok.1), (callU_B [0, 1, 3] en_popen rfl rfl (fun w Hw => by have h0 := popen_any (K := wK) wKT_ok ⟨wK_ok.1, wK_ok.2⟩ wake5 (N := wN) (Z := (sealN wT wN [] [0])) ⟨wN_ok.1, wN_ok.2⟩ (sealN_lt _ _ _ (lit_lt (by kernel_rfl))) (by rw [sealN_len]; decide) (by omega) w Hw (distinct_names rfl (distinct_at MM23.distinct (is := [0, 1, 3]) rfl rfl)); rw [wakeA, wake9] at h0; exact h0)), fun _ _ FF24 MM24 => then_n ?_⟩))
  refine wp_seq (rg_dc 59 FF24 MM24 [(1, w_ 2), (5, u_ 1 (iN 1)), (0, w_ 2), (7, u_ 1 (iN 0)), (0, w_ 2), (3, w_ 2), (6, t_ (.agg (cn .u8 wT))), (0, b_ 9), (0, t_ (sB (sealN wT wN [] [0]))), (0, w_ 2), (3, b_ 10), (0, u_ 1 (.agg (cn .u8 wT))), (0, t_ (.agg (cn .u8 wT))), (0, f_ (.bool true)), (3, b_ 10), (0, u_ 1 (.agg (cn .u8 wK))), (0, b_ 10), (0, f_ (.bool true)), (3, b_ 10), (0, u_ 1 (.bool true)), (3, t_ (.agg (cn .u8 wL))), (0, u_ 1 (.bool false))] [] 6 [10] [] (⟨rfl, (callP_B [5] en_pforged rfl (fun w Hw => pforged_any w Hw (distinct_names rfl (distinct_at MM24.distinct (is := [5]) rfl rfl)))), by decide, (callP_B [0] en_pforged rfl (fun w Hw => pforged_any w Hw (distinct_names rfl (distinct_at MM24.distinct (is := [0]) rfl rfl)))), by decide, rfl, (Eq.trans (show _ = some (cn .u8 ([97, 98, 99, 0, 0, 0, 0, 0, 0, 0, 0, 0, 0, 0, 0, 0, 0, 0, 0, 0, 0, 0, 0, 0, 0, 0, 0, 0, 0, 0, 0, 0])) by kernel_rfl) (congrArg some (Value.agg.inj rfl))), rfl, ((cn_size _ _).trans wN_ok.1), (callP_of en_Seal (seal_any wT wN ⟨wT_ok.1, wT_ok.2⟩ ⟨wN_ok.1, wN_ok.2⟩ [] [0] (lit_lt (by kernel_rfl)) (lit_lt (by kernel_rfl)) (by decide) (by decide)) _), rfl, rfl, ((cn_size _ _).trans wK_ok.1), (callP_B [0, 1] en_pKey rfl (fun w Hw => by have h0 := pKey_any (K := wK) wKT_ok ⟨wK_ok.1, wK_ok.2⟩ w Hw (distinct_names rfl (distinct_at MM24.distinct (is := [0, 1]) rfl rfl)); rw [wakeB] at h0; exact h0)), (Eq.trans (show _ = some (cn .u8 ([97, 98, 99, 0, 0, 0, 0, 0, 0, 0, 0, 0, 0, 0, 0, 0, 0, 0, 0, 0, 0, 0, 0, 0, 0, 0, 0, 0, 0, 0, 0, 0])) by kernel_rfl) (congrArg some (Value.agg.inj rfl))), (eqA_ok (t := 42) (t' := 42) (e := 5) (m := 32) (k := .u8) (x := (.tmp 97)) (y := (.tmp 98)) (by kernel_rfl) Try.underlying42 Try.underlying5 (by kernel_rfl) (by kernel_rfl) (by kernel_rfl) rfl rfl wT_ok.1 wT_ok.1 (decide_eq_true rfl)), rfl, ((cn_size _ _).trans wK_ok.1), (callP_B [5, 6] en_pKey rfl (fun w Hw => by have h0 := pKey_any (K := wK) wKK_ok ⟨wK_ok.1, wK_ok.2⟩ w Hw (distinct_names rfl (distinct_at MM24.distinct (is := [5, 6]) rfl rfl)); rw [wakeC] at h0; exact h0)), rfl, ((cn_size _ _).trans wK_ok.1), (eqA_ok (t := 42) (t' := 42) (e := 5) (m := 32) (k := .u8) (x := (.tmp 104)) (y := (.tmp 105)) (by kernel_rfl) Try.underlying42 Try.underlying5 (by kernel_rfl) (by kernel_rfl) (by kernel_rfl) rfl rfl wK_ok.1 wK_ok.1 (decide_eq_true rfl)), rfl, ((cn_size _ _).trans wK_ok.1), (callP_B [5, 6] en_pshared rfl (fun w Hw => by have h0 := pshared_any (K := wK) wKK_ok ⟨wK_ok.1, wK_ok.2⟩ w Hw (distinct_names rfl (distinct_at MM24.distinct (is := [5, 6]) rfl rfl)); rw [wakeD] at h0; exact h0)), (Eq.trans (show _ = some (cn .u8 ([2, 0, 0, 0, 0, 0, 0, 0, 0, 0, 0, 0, 0, 0, 0, 0, 0, 0, 0, 0, 0, 0, 0, 0, 0, 0, 0, 0, 0, 0, 0, 0])) by kernel_rfl) (congrArg some (Value.agg.inj rfl))), (callP_B [5, 6] en_pshared rfl (fun w Hw => by have h0 := pshared_any (K := wL) wKK_ok ⟨wL_ok.1, wL_ok.2⟩ w Hw (distinct_names rfl (distinct_at MM24.distinct (is := [5, 6]) rfl rfl)); rw [wakeE] at h0; exact h0)), fun _ _ FF25 MM25 => then_n ?_⟩))
  refine wp_ret ?_
  repeat first | refine then_ret ?_ | refine inb_ret ?_
  exact (ret_fr FF25 0 Try.results8 rfl ⟨rfl, MM25.below⟩)
end Go.Proofs.Ytniplfjnpjihoaa
namespace Go.Proofs.Ytniplfjnpjihoaa
open Go.RowKit
theorem en_klong : Enters Try.prog 31 := fun args w => by simp [go_sem]
/-- The calls: what they are. -/
def actV (fK : Nat → Int) (fA fR : Nat → Nat) (fW : Nat → List Nat) (fN : Nat → Int) (c : Nat) : Value := match c % 5 with | 0 => .int .i64 (fK (c / 5)) | 1 => iB (fA (c / 5)) | 2 => iB (fR (c / 5)) | 3 => sB (fW (c / 5)) | _ => .int .i64 (fN (c / 5))
theorem actV_0 {fK : Nat → Int} {fA fR : Nat → Nat} {fW : Nat → List Nat} {fN : Nat → Int} (i : Nat) : actV fK fA fR fW fN (i * 5) = .int .i64 (fK i) := by
  unfold actV; rw [show (i * 5) % 5 = 0 by omega, show (i * 5) / 5 = i by omega]; rfl
theorem actV_1 {fK : Nat → Int} {fA fR : Nat → Nat} {fW : Nat → List Nat} {fN : Nat → Int} (i : Nat) : actV fK fA fR fW fN (i * 5 + 1) = iB (fA i) := by
  unfold actV; rw [show (i * 5 + 1) % 5 = 1 by omega, show (i * 5 + 1) / 5 = i by omega]; rfl
theorem actV_2 {fK : Nat → Int} {fA fR : Nat → Nat} {fW : Nat → List Nat} {fN : Nat → Int} (i : Nat) : actV fK fA fR fW fN (i * 5 + 2) = iB (fR i) := by
  unfold actV; rw [show (i * 5 + 2) % 5 = 2 by omega, show (i * 5 + 2) / 5 = i by omega]; rfl
theorem actV_3 {fK : Nat → Int} {fA fR : Nat → Nat} {fW : Nat → List Nat} {fN : Nat → Int} (i : Nat) : actV fK fA fR fW fN (i * 5 + 3) = sB (fW i) := by
  unfold actV; rw [show (i * 5 + 3) % 5 = 3 by omega, show (i * 5 + 3) / 5 = i by omega]; rfl
theorem actV_4 {fK : Nat → Int} {fA fR : Nat → Nat} {fW : Nat → List Nat} {fN : Nat → Int} (i : Nat) : actV fK fA fR fW fN (i * 5 + 4) = .int .i64 (fN i) := by
  unfold actV; rw [show (i * 5 + 4) % 5 = 4 by omega, show (i * 5 + 4) / 5 = i by omega]; rfl
def FairP (n : Nat) (fW : Nat → List Nat) : Prop := n ≤ 25 ∧ ∀ j, j < n → ¬ (fW j).length > 100
set_option maxRecDepth 100000 in
theorem fair_O (O : Blks) (hD : Distinct O) (p : Option Addr) (n cp : Nat) (fK : Nat → Int) (fA fR : Nat → Nat) (fW : Nat → List Nat) (fN : Nat → Int) (hA : RowO O p (n * 5) (actV fK fA fR fW fN)) (b : Bool) (hb : b = true ↔ FairP n fW) (w0 : World) (H : Has w0 O) :
    Calls Try.prog 7 #[.slice p n cp] w0 fun e w' => e = .returned (.bool b) ∧ Below w0.heap.size w0 w' := by
  refine enter_fr Try.func7 rfl Try.ntmps7 (by simp) fun ac (FF : Fr 20 ac [(0, .slice p n cp)]) => ?_
  have MM : MemS (fun k => k < w0.heap.size ∧ ∀ x ∈ O, x.1 ≠ k) w0 w0 O [] := MemS.startN H hD
  refine wp_seq (rg_c FF MM [] 3 [] [] (fun _ _ FF1 MM1 => then_n ?_))
  refine wp_seq ?_
  refine wp_seq (rg_c FF1 MM1 [] 3 [6] [] (fun _ _ FF2 MM2 => then_n ?_))
  by_cases hs6 : n > 25
  · refine wp_cond_true ((FF2.ev 0 rfl).trans (dec_t hs6)) ?_
    have hnf : ¬ FairP n fW := fun h => by have := h.1; omega
    refine wp_seq (rg_c FF2 MM2 [] 3 [] [] (fun _ _ FF3 MM3 => then_n ?_))
    refine wp_ret ?_
    repeat first | refine then_ret ?_ | refine inb_ret ?_
    exact (ret_fr FF3 0 Try.results7 rfl ⟨congrArg (fun b => Ending.returned (Value.bool b)) (Bool.eq_false_iff.2 (fun h => hnf (hb.1 h))).symm, MM3.belowN H (fun _ hx => hx)⟩)
  · refine wp_cond_false ((FF2.ev 0 rfl).trans (dec_f hs6)) ?_
    refine wp_skip ?_
    refine then_n ?_
    refine wp_seq ?_
    refine wp_seq (rg_c FF2 MM2 [] 4 [] [] (fun _ _ FF4 MM4 => then_n ?_))
    refine wp_for2 (fun a' w' => ∃ i : Nat, i ≤ n ∧ (∀ j, j < i → ¬ (fW j).length > 100) ∧ Fr 20 a' [(3, iN i), (0, .slice p n cp)] ∧ MemS (fun k => k < w0.heap.size ∧ ∀ x ∈ O, x.1 ≠ k) w0 w' O []) (fun a' _ => (n - cnt 3 a').toNat) ⟨0, Nat.zero_le _, (fun j hj => absurd hj (Nat.not_lt_zero _)), FF4.pick [0, 2], MM4⟩ ?_
    rintro ac5 wd5 ⟨i, hi, hG, FF5, MM5⟩
    have hc := cnt_of (FF5.get 0 rfl)
    refine rg_c FF5 MM5 [] 4 [10] [] (fun _ _ FF6 MM6 => ?_)
    by_cases hlt : i < n
    · skip
      refine then_n (.inl ⟨(FF6.ev 0 rfl).trans (dec_t hlt), ?_⟩)
      by_cases hgi : (fW i).length > 100
      · skip
        have hnf : ¬ FairP n fW := fun h => h.2 i hlt hgi
        refine wp_seq (rg_c FF6 MM6 [(2, f_ (.pointer (some ⟨gOf p, oOf p + i * 5, none⟩))), (1, f_ (sB (fW i))), (0, t_ (iN ((fW i).length))), (0, w_ 2)] 4 [19] [] (⟨(rowX_addr (x := (.tmp 13)) (y := (.tmp 14)) (k := 5) (i := i) (by kernel_rfl) rfl rfl Try.underlying22 (by kernel_rfl) hA (by omega) (by omega)), (rowX_load (x := (.tmp 16)) (j := i * 5 + 3) (by kernel_rfl) rfl Try.underlying9 rfl hA (fun _ hx => hx) (by omega) (actV_3 i)), (vI (bs_size _)), hgi, fun _ _ FF7 MM7 => then_n ?_⟩))
        refine wp_cond_true (FF7.ev 0 rfl) ?_
        refine wp_seq (rg_c FF7 MM7 [] 4 [] [] (fun _ _ FF8 MM8 => then_n ?_))
        refine wp_ret ?_
        repeat first | refine then_ret ?_ | refine inb_ret ?_
        exact (ret_fr FF8 0 Try.results7 rfl ⟨congrArg (fun b => Ending.returned (Value.bool b)) (Bool.eq_false_iff.2 (fun h => hnf (hb.1 h))).symm, MM8.belowN H (fun _ hx => hx)⟩)
      · skip
        refine wp_seq (rg_c FF6 MM6 [(2, f_ (.pointer (some ⟨gOf p, oOf p + i * 5, none⟩))), (1, f_ (sB (fW i))), (0, t_ (iN ((fW i).length))), (0, w_ 3)] 4 [19] [] (⟨(rowX_addr (x := (.tmp 13)) (y := (.tmp 14)) (k := 5) (i := i) (by kernel_rfl) rfl rfl Try.underlying22 (by kernel_rfl) hA (by omega) (by omega)), (rowX_load (x := (.tmp 16)) (j := i * 5 + 3) (by kernel_rfl) rfl Try.underlying9 rfl hA (fun _ hx => hx) (by omega) (actV_3 i)), (vI (bs_size _)), hgi, fun _ _ FF9 MM9 => then_n ?_⟩))
        refine wp_cond_false (FF9.ev 0 rfl) ?_
        refine wp_skip ?_
        refine inb_n (then_n ?_)
        refine rg_c FF9 MM9 [] 4 [] [] (⟨by omega, fun _ _ FF10 MM10 => ?_⟩)
        have hd := cnt_of (FF10.get 0 rfl)
        refine then_n ⟨⟨i + 1, by omega, (fun j hj => (Nat.lt_or_ge j i).elim (hG j) (fun h => (show i = j by omega) ▸ hgi)), FF10.pick [0, 1], MM10⟩, ?_⟩
        rw [hc, hd]; omega
    · skip
      refine then_n (.inr ⟨(FF6.ev 0 rfl).trans (dec_f hlt), ?_⟩)
      have hF : FairP n fW := ⟨by omega, fun j hj => hG j (by omega)⟩
      refine then_n ?_
      refine wp_seq (rg_c FF6 MM6 [] 4 [] [] (fun _ _ FF11 MM11 => then_n ?_))
      refine wp_ret ?_
      repeat first | refine then_ret ?_ | refine inb_ret ?_
      exact (ret_fr FF11 0 Try.results7 rfl ⟨congrArg (fun b => Ending.returned (Value.bool b)) (hb.2 hF).symm, MM11.belowN H (fun _ hx => hx)⟩)
theorem fair_w (p : Option Addr) (n cp : Nat) (fK : Nat → Int) (fA fR : Nat → Nat) (fW : Nat → List Nat) (fN : Nat → Int) (b : Bool) (hb : b = true ↔ FairP n fW) (w : World) (hA : RowIn w p (n * 5) (actV fK fA fR fW fN)) : Calls Try.prog 7 #[.slice p n cp] w fun e w' => e = .returned (.bool b) ∧ Below w.heap.size w w' := by
  obtain ⟨O, h1, h2, h3, _⟩ := rowX_O (O := []) hA (fun i y hy => by simp at hy) .nil
  exact fair_O O (distinct_of h2) p n cp fK fA fR fW fN h3 b hb w h1
def sumF (s : Nat → List Nat) : Nat → Nat
  | 0 => 0
  | n + 1 => sumF s n + (s n).length
theorem sumF_mono (s : Nat → List Nat) {i : Nat} : ∀ {n : Nat}, i ≤ n → sumF s i ≤ sumF s n
  | 0, h => by obtain rfl : i = 0 := by omega
               exact Nat.le_refl _
  | n + 1, h => by
    rcases Nat.eq_or_lt_of_le h with rfl | h1
    · exact Nat.le_refl _
    · exact Nat.le_trans (sumF_mono s (Nat.le_of_lt_succ h1)) (Nat.le_add_right _ _)
set_option maxRecDepth 100000 in
theorem klong_O (O : Blks) (hD : Distinct O) (p : Option Addr) (n c : Nat) (s : Nat → List Nat) (hn : n ≤ 9223372036854775807) (m : Nat) (hm : m < 9223372036854775808) (hF : RowO O p n (fun k9 => sB (s k9))) (w0 : World) (H : Has w0 O) :
    Calls Try.prog 31 #[.slice p n c, iN m] w0 fun e w' => e = .returned (.bool (decide (sumF s n > m))) ∧ Below w0.heap.size w0 w' := by
  refine enter_fr Try.func31 rfl Try.ntmps31 (by simp) fun ac (FF : Fr 26 ac [(0, .slice p n c), (1, iN m)]) => ?_
  have MM : MemS (fun k => k < w0.heap.size ∧ ∀ x ∈ O, x.1 ≠ k) w0 w0 O [] := MemS.startN H hD
  refine wp_seq (rg_c FF MM [] 5 [] [] (fun _ _ FF1 MM1 => then_n ?_))
  refine wp_seq ?_
  refine wp_seq (rg_c FF1 MM1 [] 6 [] [] (fun _ _ FF2 MM2 => then_n ?_))
  refine wp_for2 (fun a' w' => ∃ i : Nat, i ≤ n ∧ sumF s i ≤ m ∧ Fr 26 a' [(5, iN i), (0, .slice p n c), (1, iN (m - sumF s i))] ∧ MemS (fun k => k < w0.heap.size ∧ ∀ x ∈ O, x.1 ≠ k) w0 w' O []) (fun a' _ => (n - cnt 5 a').toNat) ⟨0, Nat.zero_le _, Nat.zero_le _, FF2.pick [0, 2, 3], MM2⟩ ?_
  rintro ac3 wd3 ⟨i, hi, hs, FF3, MM3⟩
  have hc := cnt_of (FF3.get 0 rfl)
  refine rg_c FF3 MM3 [] 6 [9] [] (fun _ _ FF4 MM4 => ?_)
  by_cases hlt : i < n
  · skip
    refine then_n (.inl ⟨(FF4.ev 0 rfl).trans (dec_t hlt), ?_⟩)
    refine wp_seq ?_
    have hsu : sumF s (i + 1) = sumF s i + (s i).length := rfl
    refine wp_seq (rg_c FF4 MM4 [(2, f_ (.pointer (some ⟨gOf p, oOf p + i, none⟩))), (0, f_ (sB (s i))), (0, t_ (iN ((s i).length)))] 6 [18] [] (⟨(rowX_addr (x := (.tmp 12)) (y := (.tmp 13)) (k := 1) (i := i) (by kernel_rfl) rfl rfl Try.underlying38 (by kernel_rfl) hF (by omega) (by omega)), (rowX_load (x := (.tmp 14)) (j := i) (by kernel_rfl) rfl Try.underlying9 rfl hF (fun _ hx => hx) (by omega) rfl), (vI (bs_size _)), fun _ _ FF5 MM5 => then_n ?_⟩))
    by_cases hs18 : ((s i).length) > (m - sumF s i)
    · refine wp_cond_true ((FF5.ev 0 rfl).trans (dec_t hs18)) ?_
      refine wp_seq (rg_c FF5 MM5 [] 6 [] [] (fun _ _ FF6 MM6 => then_n ?_))
      refine wp_ret ?_
      repeat first | refine then_ret ?_ | refine inb_ret ?_
      exact (ret_fr FF6 0 Try.results31 rfl ⟨congrArg (fun b => Ending.returned (Value.bool b)) (decide_eq_true (by have := sumF_mono s (i := i + 1) (n := n) hlt; omega)).symm, MM6.belowN H (fun _ hx => hx)⟩)
    · refine wp_cond_false ((FF5.ev 0 rfl).trans (dec_f hs18)) ?_
      refine wp_skip ?_
      refine then_n ?_
      refine rg_c FF5 MM5 [(3, f_ (.pointer (some ⟨gOf p, oOf p + i, none⟩))), (0, f_ (sB (s i))), (0, t_ (iN ((s i).length))), (0, t_ (iN (m - sumF s (i + 1))))] 6 [] [] (⟨(rowX_addr (x := (.tmp 20)) (y := (.tmp 21)) (k := 1) (i := i) (by kernel_rfl) rfl rfl Try.underlying38 (by kernel_rfl) hF (by omega) (by omega)), (rowX_load (x := (.tmp 22)) (j := i) (by kernel_rfl) rfl Try.underlying9 rfl hF (fun _ hx => hx) (by omega) rfl), (vI (bs_size _)), by omega, by omega, (vI (by omega)), fun _ _ FF7 MM7 => ?_⟩)
      have hs2 : sumF s (i + 1) ≤ m := by omega
      refine inb_n (then_n ?_)
      refine rg_c FF7 MM7 [] 6 [] [] (⟨by omega, fun _ _ FF8 MM8 => ?_⟩)
      have hd := cnt_of (FF8.get 0 rfl)
      refine then_n ⟨⟨i + 1, by omega, hs2, FF8.pick [0, 2, 1], MM8⟩, ?_⟩
      rw [hc, hd]; omega
  · skip
    refine then_n (.inr ⟨(FF4.ev 0 rfl).trans (dec_f hlt), ?_⟩)
    obtain rfl : n = i := by omega
    refine then_n ?_
    refine wp_seq (rg_c FF4 MM4 [] 6 [] [] (fun _ _ FF9 MM9 => then_n ?_))
    refine wp_ret ?_
    repeat first | refine then_ret ?_ | refine inb_ret ?_
    exact (ret_fr FF9 0 Try.results31 rfl ⟨congrArg (fun b => Ending.returned (Value.bool b)) (decide_eq_false (by omega)).symm, MM9.belowN H (fun _ hx => hx)⟩)
theorem klong_w (p : Option Addr) (n c : Nat) (s : Nat → List Nat) (hn : n ≤ 9223372036854775807) (m : Nat) (hm : m < 9223372036854775808) (w : World) (hF : RowIn w p n (fun k9 => sB (s k9))) :
    Calls Try.prog 31 #[.slice p n c, iN m] w fun e w' => e = .returned (.bool (decide (sumF s n > m))) ∧ Below w.heap.size w w' := by
  obtain ⟨O, h1, h2, h3⟩ := row_O hF
  exact klong_O O h2 p n c s hn m hm h3 w h1
theorem getD_memL {l : List (List Nat)} {i : Nat} (h : i < l.length) : l.getD i [] ∈ l := by
  rw [List.getD_eq_getElem?_getD, List.getElem?_eq_getElem h]; exact List.getElem_mem h
end Go.Proofs.Ytniplfjnpjihoaa
