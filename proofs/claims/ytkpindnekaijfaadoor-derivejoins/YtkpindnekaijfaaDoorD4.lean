/- The answer of the document for layer 7. -/
import Derived.Test.YtkpindnekaijfaaDoorD3
namespace Go.Proofs.YtkpindnekaijfaaDoor
open Go.RowKit

theorem en_rpack : Enters Tryd.prog 10 := fun args w => by simp [go_sem]
theorem en_rkey : Enters Tryd.prog 12 := fun args w => by simp [go_sem]
theorem en_rdid : Enters Tryd.prog 14 := fun args w => by simp [go_sem]
theorem en_rround : Enters Tryd.prog 16 := fun args w => by simp [go_sem]
theorem en_rnonce : Enters Tryd.prog 18 := fun args w => by simp [go_sem]
set_option maxRecDepth 100000 in
theorem rpack_some (Ps : List (List Nat)) (hP : ∀ X ∈ Ps, ∀ i, X.getD i 0 < 256) (hl : (packN Ps).length ≤ 140737488355328) (pb off cap T9 : Nat) (fr : Nat × Nat) (cs : Array Value) (hp0 : ∀ j, j < Ps.length → cs[off + j]? = some (.string (bs (Ps.getD j [])))) (w0 : World) (hb : w0.heap[pb]? = some (.cells cs T9 fr)) :
    Calls Tryd.prog 10 #[.slice (some ⟨pb, off, none⟩) Ps.length cap] w0 fun e w' => e = .returned (.string (bs (packN Ps))) ∧ Below w0.heap.size w0 w' := by
  have MM := MemS.start1 hb
  refine enter_fr Tryd.func10 rfl Tryd.ntmps10 (by simp) fun ac (FF : Fr 38 ac [(0, .slice (some ⟨pb, off, none⟩) Ps.length cap)]) => ?_
  refine wp_seq (rg_seq FF MM [o_] [0, 2] (fun Kt => Kt [(2, .string (bs [])), (0, .slice (some ⟨pb, off, none⟩) Ps.length cap)] [(pb, .cells cs T9 fr)]) (by kernel_rfl) (fun _ => by kernel_rfl) (fun ac1 wd1 FF1 MM1 => then_n ?_))
  refine wp_seq (rg_seq FF1 MM1 [o_] [2, 0, 3] (fun Kt => Kt [(3, .string (bs [])), (2, .string (bs [])), (0, .slice (some ⟨pb, off, none⟩) Ps.length cap)] [(pb, .cells cs T9 fr)]) (by kernel_rfl) (fun _ => by kernel_rfl) (fun ac2 wd2 FF2 MM2 => then_n ?_))
  refine wp_seq ?_
  refine wp_seq (rg_seq FF2 MM2 [o_] [3, 2, 0, 4] (fun Kt => Kt [(4, .int .i64 (0 : Nat)), (3, .string (bs [])), (2, .string (bs [])), (0, .slice (some ⟨pb, off, none⟩) Ps.length cap)] [(pb, .cells cs T9 fr)]) (by kernel_rfl) (fun _ => by kernel_rfl) (fun ac3 wd3 FF3 MM3 => then_n ?_))
  refine wp_for2 (fun a' w' => ∃ i : Nat, i ≤ Ps.length ∧ Fr 38 a' [(4, .int .i64 (i : Nat)), (3, .string (bs (packN (Ps.take i)))), (2, .string (bs [])), (0, .slice (some ⟨pb, off, none⟩) Ps.length cap)] ∧ MemS (fun k => k < w0.heap.size ∧ k ≠ pb) w0 w' [(pb, .cells cs T9 fr)] []) (fun a' _ => (Ps.length - cnt 4 a').toNat) ⟨0, Nat.zero_le _, FF3.pick [0, 1, 2, 3], MM3⟩ ?_
  rintro ac4 wd4 ⟨i, hi, FF4, MM4⟩
  have hc := cnt_of (FF4.get 0 rfl)
  refine rg_seq FF4 MM4 [o_, o_, o_, o_] [4, 3, 2, 0, 9] (fun Kt => Kt [(9, .bool (decide (i < Ps.length))), (4, .int .i64 (i : Nat)), (3, .string (bs (packN (Ps.take i)))), (2, .string (bs [])), (0, .slice (some ⟨pb, off, none⟩) Ps.length cap)] [(pb, .cells cs T9 fr)]) (by kernel_rfl) (fun _ => by kernel_rfl) (fun ac5 wd5 FF5 MM5 => ?_)
  by_cases hlt : i < Ps.length
  · skip
    refine then_n (.inl ⟨(FF5.ev 0 rfl).trans (dec_t hlt), ?_⟩)
    have hXl := getD_lt hP hlt
    have hpl := packN_len Ps
    have hle := packN_le Ps (i + 1)
    rw [packN_take Ps i hlt] at hle
    simp only [List.length_append, leN_len] at hle
    refine wp_seq (rg_seq FF5 MM5 [o_, o_, o_, l_ 0 (.string (bs (Ps.getD i []))), t_ (.int .i64 ((Ps.getD i []).length : Nat)), o_] [4, 3, 2, 0, 5] (fun Kt => i < Ps.length ∧ pb = pb ∧ cs[off + i]? = some (.string (bs (Ps.getD i []))) ∧ Value.int .i64 ((bs (Ps.getD i [])).size : Nat) = .int .i64 ((Ps.getD i []).length : Nat) ∧ Kt [(5, .int .i64 ((Ps.getD i []).length : Nat)), (4, .int .i64 (i : Nat)), (3, .string (bs (packN (Ps.take i)))), (2, .string (bs [])), (0, .slice (some ⟨pb, off, none⟩) Ps.length cap)] [(pb, .cells cs T9 fr)]) (by kernel_rfl) (fun _ => by kernel_rfl) (⟨(by omega), rfl, (hp0 i hlt), (vI (bs_size _)), fun ac6 wd6 FF6 MM6 => then_n ?_⟩))
    refine rg_draw FF6 MM6 [.inl (.string (bs (packN (Ps.take i)))), .inl (.int .i64 ((Ps.getD i []).length : Nat)), .inl (.int .u8 (((Ps.getD i []).length) % 256 : Nat)), .inl (.int .i64 ((Ps.getD i []).length : Nat)), .inl (.int .i64 (((Ps.getD i []).length) / 256 : Nat)), .inl (.int .u8 ((((Ps.getD i []).length) / 256) % 256 : Nat)), .inl (.int .i64 ((Ps.getD i []).length : Nat)), .inl (.int .i64 (((Ps.getD i []).length) / 65536 : Nat)), .inl (.int .u8 ((((Ps.getD i []).length) / 65536) % 256 : Nat)), .inl (.int .i64 ((Ps.getD i []).length : Nat)), .inl (.int .i64 (((Ps.getD i []).length) / 16777216 : Nat)), .inl (.int .u8 ((((Ps.getD i []).length) / 16777216) % 256 : Nat)), .inr (.cells (cn .u8 ([(Ps.getD i []).length % 256, (Ps.getD i []).length / 256 % 256, (Ps.getD i []).length / 65536 % 256, (Ps.getD i []).length / 16777216 % 256])) 5, fun b => .slice (some ⟨b, 0, none⟩) 4 4), .inl (.string (bs (leN 4 (Ps.getD i []).length))), .inl (.slice (some ⟨pb, off, none⟩) Ps.length cap), .inl (.int .i64 (i : Nat)), .inl (.pointer (some ⟨pb, off + i, none⟩)), .inl (.string (bs (Ps.getD i []))), .inl (.string (bs ((leN 4 (Ps.getD i []).length) ++ (Ps.getD i [])))), .inl (.string (bs (packN (Ps.take (i + 1)))))] [] [o_, o_, o_, o_, o_, o_, o_, o_, o_, o_, o_, o_, o_, l_ 0 (.string (bs (leN 4 (Ps.getD i []).length))), o_, o_, o_, l_ 0 (.string (bs (Ps.getD i []))), t_ (.string (bs ((leN 4 (Ps.getD i []).length) ++ (Ps.getD i [])))), t_ (.string (bs (packN (Ps.take (i + 1)))))] [o_] [5, 4, 3, 2, 0] (fun nb => [8 ≤ 64, 16 ≤ 64, 24 ≤ 64, (nb 12) = (nb 12), StrAt (cn .u8 ([(Ps.getD i []).length % 256, (Ps.getD i []).length / 256 % 256, (Ps.getD i []).length / 65536 % 256, (Ps.getD i []).length / 16777216 % 256])) 0 4 (bs (leN 4 (Ps.getD i []).length)), i < Ps.length, pb = pb, cs[off + i]? = some (.string (bs (Ps.getD i []))), (bs (leN 4 (Ps.getD i []).length)).size + (bs (Ps.getD i [])).size ≤ 9223372036854775807, Value.string (bs (leN 4 (Ps.getD i []).length) ++ bs (Ps.getD i [])) = .string (bs ((leN 4 (Ps.getD i []).length) ++ (Ps.getD i []))), (bs (packN (Ps.take i))).size + (bs ((leN 4 (Ps.getD i []).length) ++ (Ps.getD i []))).size ≤ 9223372036854775807, Value.string (bs (packN (Ps.take i)) ++ bs ((leN 4 (Ps.getD i []).length) ++ (Ps.getD i []))) = .string (bs (packN (Ps.take (i + 1))))]) (fun nb Kt => Kt [(3, .string (bs (packN (Ps.take (i + 1))))), (5, .int .i64 ((Ps.getD i []).length : Nat)), (4, .int .i64 (i : Nat)), (2, .string (bs [])), (0, .slice (some ⟨pb, off, none⟩) Ps.length cap)] [(pb, .cells cs T9 fr)]) (by kernel_rfl) (by kernel_rfl) (by kernel_rfl) (fun _ => by kernel_rfl) (fun _ _ => by kernel_rfl) trivial (fun nb => ⟨(by decide), (by decide), (by decide), rfl, (by rw [leN4]; exact str_all (leN_len _ _) (leN_lt _ _)), (by omega), rfl, (hp0 i hlt), (by simp only [bs_size, leN_len]; omega), (vS2 (bs_app _ _)), (by simp only [bs_size, List.length_append, leN_len]; omega), (vS2 ((bs_app _ _).trans (congrArg bs (by rw [packN_take Ps i hlt, List.append_assoc])))), trivial⟩) (fun nb => fun ac7 wd7 FF7 MM7 => ?_)
    refine inb_n (then_n ?_)
    refine rg_seq FF7 MM7 [o_, o_, o_] [3, 5, 4, 2, 0] (fun Kt => i + 1 < 9223372036854775808 ∧ Kt [(4, .int .i64 (i + 1 : Nat)), (3, .string (bs (packN (Ps.take (i + 1))))), (5, .int .i64 ((Ps.getD i []).length : Nat)), (2, .string (bs [])), (0, .slice (some ⟨pb, off, none⟩) Ps.length cap)] [(pb, .cells cs T9 fr)]) (by kernel_rfl) (fun _ => by kernel_rfl) (⟨(by omega), fun ac8 wd8 FF8 MM8 => ?_⟩)
    have hd := cnt_of (FF8.get 0 rfl)
    refine then_n ⟨⟨i + 1, by omega, FF8.pick [0, 1, 3, 4], MM8⟩, ?_⟩
    rw [hc, hd]; omega
  · skip
    refine then_n (.inr ⟨(FF5.ev 0 rfl).trans (dec_f hlt), ?_⟩)
    have hie : i = Ps.length := by omega
    subst hie
    rw [List.take_length] at FF5
    refine then_n ?_
    refine wp_seq (rg_seq FF5 MM5 [o_, o_] [4, 3, 2, 0] (fun Kt => Kt [(2, .string (bs (packN Ps))), (4, .int .i64 (Ps.length : Nat)), (3, .string (bs (packN Ps))), (0, .slice (some ⟨pb, off, none⟩) Ps.length cap)] [(pb, .cells cs T9 fr)]) (by kernel_rfl) (fun _ => by kernel_rfl) (fun ac9 wd9 FF9 MM9 => then_n ?_))
    refine wp_ret ?_
    repeat first | refine then_ret ?_ | refine inb_ret ?_
    exact (ret_fr FF9 0 Tryd.results10 rfl ⟨rfl, MM9.below1 0 rfl hb⟩)
set_option maxRecDepth 100000 in
theorem rpack_none (p : Option Addr) (cap : Nat) (w0 : World) :
    Calls Tryd.prog 10 #[.slice p 0 cap] w0 fun e w' => e = .returned (.string (bs [])) ∧ Below w0.heap.size w0 w' := by
  refine enter_fr Tryd.func10 rfl Tryd.ntmps10 (by simp) fun ac (FF : Fr 38 ac [(0, .slice p 0 cap)]) => ?_
  have MM := MemS.start w0
  refine wp_seq (rg_seq FF MM [o_] [0, 2] (fun Kt => Kt [(2, .string (bs [])), (0, .slice p 0 cap)] []) (by kernel_rfl) (fun _ => by kernel_rfl) (fun ac1 wd1 FF1 MM1 => then_n ?_))
  refine wp_seq (rg_seq FF1 MM1 [o_] [2, 0, 3] (fun Kt => Kt [(3, .string (bs [])), (2, .string (bs [])), (0, .slice p 0 cap)] []) (by kernel_rfl) (fun _ => by kernel_rfl) (fun ac2 wd2 FF2 MM2 => then_n ?_))
  refine wp_seq ?_
  refine wp_seq (rg_seq FF2 MM2 [o_] [3, 2, 0, 4] (fun Kt => Kt [(4, .int .i64 (0 : Nat)), (3, .string (bs [])), (2, .string (bs [])), (0, .slice p 0 cap)] []) (by kernel_rfl) (fun _ => by kernel_rfl) (fun ac3 wd3 FF3 MM3 => then_n ?_))
  refine wp_for2 (fun a' w' => Fr 38 a' [(4, .int .i64 (0 : Nat)), (3, .string (bs [])), (2, .string (bs [])), (0, .slice p 0 cap)] ∧ MemS (fun k => k < w0.heap.size) w0 w' [] []) (fun a' _ => 0) ⟨FF3.pick [0, 1, 2, 3], MM3⟩ ?_
  rintro ac4 wd4 ⟨FF4, MM4⟩
  refine rg_seq FF4 MM4 [o_, o_, o_, w_ 3] [4, 3, 2, 0, 9] (fun Kt => ¬ (0 < 0) ∧ Kt [(9, .bool false), (4, .int .i64 (0 : Nat)), (3, .string (bs [])), (2, .string (bs [])), (0, .slice p 0 cap)] []) (by kernel_rfl) (fun _ => by kernel_rfl) (⟨(by decide), fun ac5 wd5 FF5 MM5 => ?_⟩)
  refine then_n (.inr ⟨FF5.ev 0 rfl, ?_⟩)
  refine then_n ?_
  refine wp_seq (rg_seq FF5 MM5 [o_, o_] [4, 3, 2, 0] (fun Kt => Kt [(2, .string (bs [])), (4, .int .i64 (0 : Nat)), (3, .string (bs [])), (0, .slice p 0 cap)] []) (by kernel_rfl) (fun _ => by kernel_rfl) (fun ac6 wd6 FF6 MM6 => then_n ?_))
  refine wp_ret ?_
  repeat first | refine then_ret ?_ | refine inb_ret ?_
  exact (ret_fr FF6 0 Tryd.results10 rfl ⟨rfl, MM6.below⟩)
theorem rpack_any (Ps : List (List Nat)) (hP : ∀ X ∈ Ps, ∀ i, X.getD i 0 < 256) (hl : (packN Ps).length ≤ 140737488355328) (p : Option Addr) (cap : Nat) (w0 : World) (h : StrsIn w0 p Ps) :
    Calls Tryd.prog 10 #[.slice p Ps.length cap] w0 fun e w' => e = .returned (.string (bs (packN Ps))) ∧ Below w0.heap.size w0 w' := by
  rcases h with rfl | ⟨b, off, cs, T, fr, rfl, hb, hc⟩
  · exact rpack_none p cap w0
  · exact rpack_some Ps hP hl b off cap T fr cs hc w0 hb
set_option maxRecDepth 100000 in
theorem rkey_O (O : Blks) (hD : Distinct O) (X : List Nat) (hX : ∀ i, X.getD i 0 < 256) (Ps : List (List Nat)) (hP : ∀ X ∈ Ps, ∀ i, X.getD i 0 < 256) (hl : X.length + (packN Ps).length < 100000000) (p : Option Addr) (cap : Nat) (hO : StrsO O p Ps) (w0 : World) (H : Has w0 O) :
    Calls Tryd.prog 12 #[.string (bs X), .slice p Ps.length cap] w0 fun e w' => e = .returned (.agg (cn .u8 (shaN (packN [X] ++ packN Ps)))) ∧ Below w0.heap.size w0 w' := by
  refine enter_fr Tryd.func12 rfl Tryd.ntmps12 (by simp) fun ac (FF : Fr 12 ac [(0, .string (bs X)), (1, .slice p Ps.length cap)]) => ?_
  have MM : MemS (fun k => k < w0.heap.size ∧ ∀ x ∈ O, x.1 ≠ k) w0 w0 O [] := MemS.startN H hD
  have hlX : (packN [X]).length = 4 + X.length := by simp [packN_len]
  refine wp_seq (rg_seq FF MM [o_] [0, 1, 4] (fun Kt => ∀ bo, Kt [(4, .pointer (some ⟨bo, 0, none⟩)), (0, .string (bs X)), (1, .slice p Ps.length cap)] ((bo, .cells (cn .u8 (List.replicate 32 0)) 31) :: O)) (by kernel_rfl) (fun _ => by kernel_rfl) (fun bo => fun ac1 wd1 FF1 MM1 => then_n ?_))
  refine wp_seq (rg_seq FF1 MM1 [o_, o_, u_ 1 (.string (bs (packN [X]))), o_, u_ 1 (.string (bs (packN Ps))), t_ (.string (bs ((packN [X]) ++ (packN Ps)))), t_ (.agg (cn .u8 (shaN ((packN [X]) ++ (packN Ps))))), b_ 1] [4] (fun Kt => ∀ ba, CallP Tryd.prog 10 [.slice (some ⟨ba, 0, none⟩) 1 1] ((ba, .cells (#[.string (bs X)] : Array Value) 9) :: (bo, .cells (cn .u8 (List.replicate 32 0)) 31) :: O) (.string (bs (packN [X]))) ∧ CallP Tryd.prog 10 [.slice p Ps.length cap] ((ba, .cells (#[.string (bs X)] : Array Value) 9) :: (bo, .cells (cn .u8 (List.replicate 32 0)) 31) :: O) (.string (bs (packN Ps))) ∧ (bs (packN [X])).size + (bs (packN Ps)).size ≤ 9223372036854775807 ∧ Value.string (bs (packN [X]) ++ bs (packN Ps)) = .string (bs ((packN [X]) ++ (packN Ps))) ∧ CallP Tryd.prog 20 [.string (bs ((packN [X]) ++ (packN Ps)))] [] (.agg (cn .u8 (shaN ((packN [X]) ++ (packN Ps))))) ∧ bo = bo ∧ (cn .u8 (List.replicate 32 0)).size = 32 ∧ (cn .u8 (shaN ((packN [X]) ++ (packN Ps)))).size = 32 ∧ (cn .u8 (shaN ((packN [X]) ++ (packN Ps)))).all (·.oneCell') = true ∧ (0, 0).2 = 0 ∧ Kt [(4, .pointer (some ⟨bo, 0, none⟩))] ((ba, .cells (#[.string (bs X)] : Array Value) 9) :: (bo, .cells (cn .u8 (shaN ((packN [X]) ++ (packN Ps)))) 31) :: O)) (by kernel_rfl) (fun _ => by kernel_rfl) (fun ba => ⟨⟨en_rpack, fun w Hw => rpack_any [X] (lt1 hX) (by rw [hlX]; omega) (some ⟨ba, 0, none⟩) 1 w (.inr ⟨ba, 0, _, _, _, rfl, Hw 0 _ rfl, (at1s X)⟩)⟩, ⟨en_rpack, fun w Hw => rpack_any Ps hP (by omega) p cap w (hO.at (Has.tl (Has.tl Hw)))⟩, (by simp only [bs_size, hlX]; omega), (vS2 (bs_app _ _)), (callP_of en_rsum (rsum_any ((packN [X]) ++ (packN Ps)) (app_lt (packN_lt (lt1 hX)) (packN_lt hP)) (by simp only [List.length_append, hlX]; omega)) _), rfl, ((cn_size _ _).trans (List.length_replicate ..)), ((cn_size _ _).trans (shaN_bytes _).len), (cn_one _ _), rfl, fun ac2 wd2 FF2 MM2 => then_n ?_⟩))
  refine wp_ret ?_
  repeat first | refine then_ret ?_ | refine inb_ret ?_
  exact (retc FF2 MM2 (k := 32) (i := 1) (j := 0) Tryd.results12 rfl rfl Tryd.underlying31 rfl (by kernel_rfl) ((cn_size _ _).trans (shaN_bytes _).len) ⟨rfl, MM2.belowN H (fun x hx => List.mem_cons_of_mem _ (List.mem_cons_of_mem _ (hx)))⟩)
theorem rkey_any (X : List Nat) (hX : ∀ i, X.getD i 0 < 256) (Ps : List (List Nat)) (hP : ∀ X ∈ Ps, ∀ i, X.getD i 0 < 256) (hl : X.length + (packN Ps).length < 100000000) (p : Option Addr) (cap : Nat) (w0 : World) (h : StrsIn w0 p Ps) :
    Calls Tryd.prog 12 #[.string (bs X), .slice p Ps.length cap] w0 fun e w' => e = .returned (.agg (cn .u8 (shaN (packN [X] ++ packN Ps)))) ∧ Below w0.heap.size w0 w' := by
  obtain ⟨O, hD, H, hO⟩ := strsO_of h
  exact rkey_O O hD X hX Ps hP hl p cap hO w0 H
theorem genI (X : List Nat) (h : X.length = 32) : genL 16 (fun i => X.getD i 0) 16 = X.take 16 := by
  refine List.ext_getElem (by simp [genL, h]) fun i h1 h2 => ?_
  have hi : i < 16 := by simpa [genL] using h1
  simp [genL, hi, show i < X.length by omega]
set_option maxRecDepth 100000 in
theorem rdid_O (O : Blks) (hD : Distinct O) (X : List Nat) (hX : ∀ i, X.getD i 0 < 256) (Ps : List (List Nat)) (hP : ∀ X ∈ Ps, ∀ i, X.getD i 0 < 256) (hl : X.length + (packN Ps).length < 100000000) (p : Option Addr) (cap : Nat) (hO : StrsO O p Ps) (w0 : World) (H : Has w0 O) :
    Calls Tryd.prog 14 #[.string (bs X), .slice p Ps.length cap] w0 fun e w' => e = .returned (.agg (cn .u8 (idN X Ps))) ∧ Below w0.heap.size w0 w' := by
  refine enter_fr Tryd.func14 rfl Tryd.ntmps14 (by simp) fun ac (FF : Fr 22 ac [(0, .string (bs X)), (1, .slice p Ps.length cap)]) => ?_
  have MM : MemS (fun k => k < w0.heap.size ∧ ∀ x ∈ O, x.1 ≠ k) w0 w0 O [] := MemS.startN H hD
  refine wp_seq (rg_seq FF MM [o_] [0, 1, 4] (fun Kt => ∀ bo, Kt [(4, .pointer (some ⟨bo, 0, none⟩)), (0, .string (bs X)), (1, .slice p Ps.length cap)] ((bo, .cells (cn .u8 (List.replicate 16 0)) 35) :: O)) (by kernel_rfl) (fun _ => by kernel_rfl) (fun bo => fun ac1 wd1 FF1 MM1 => then_n ?_))
  refine wp_seq (rg_seq FF1 MM1 [o_, o_, u_ 1 (.agg (cn .u8 (shaN (packN [X] ++ packN Ps)))), o_, b_ 0] [4, 5] (fun Kt => CallP Tryd.prog 12 [.string (bs X), .slice p Ps.length cap] ((bo, .cells (cn .u8 (List.replicate 16 0)) 35) :: O) (.agg (cn .u8 (shaN (packN [X] ++ packN Ps)))) ∧ ∀ bk, bk = bk ∧ (cn .u8 (List.replicate 32 0)).size = 32 ∧ (cn .u8 (shaN (packN [X] ++ packN Ps))).size = 32 ∧ (cn .u8 (shaN (packN [X] ++ packN Ps))).all (·.oneCell') = true ∧ (0, 0).2 = 0 ∧ Kt [(5, .pointer (some ⟨bk, 0, none⟩)), (4, .pointer (some ⟨bo, 0, none⟩))] ((bk, .cells (cn .u8 (shaN (packN [X] ++ packN Ps))) 31) :: (bo, .cells (cn .u8 (List.replicate 16 0)) 35) :: O)) (by kernel_rfl) (fun _ => by kernel_rfl) (⟨⟨en_rkey, fun w Hw => rkey_any X hX Ps hP hl p cap w (hO.at (Has.tl Hw))⟩, fun bk => ⟨rfl, ((cn_size _ _).trans (List.length_replicate ..)), ((cn_size _ _).trans (shaN_bytes _).len), (cn_one _ _), rfl, fun ac2 wd2 FF2 MM2 => then_n ?_⟩⟩))
  refine wp_seq (rg_seq FF2 MM2 [o_, o_, b_ 0] [5, 4, 6] (fun Kt => ∀ bu, bu = bu ∧ (cn .u8 (List.replicate 16 0)).size = 16 ∧ (cn .u8 (List.replicate 16 0)).size = 16 ∧ (cn .u8 (List.replicate 16 0)).all (·.oneCell') = true ∧ (0, 0).2 = 0 ∧ Kt [(6, .pointer (some ⟨bu, 0, none⟩)), (5, .pointer (some ⟨bk, 0, none⟩)), (4, .pointer (some ⟨bo, 0, none⟩))] ((bu, .cells (cn .u8 (List.replicate 16 0)) 35) :: (bk, .cells (cn .u8 (shaN (packN [X] ++ packN Ps))) 31) :: (bo, .cells (cn .u8 (List.replicate 16 0)) 35) :: O)) (by kernel_rfl) (fun _ => by kernel_rfl) (fun bu => ⟨rfl, ((cn_size _ _).trans (List.length_replicate ..)), ((cn_size _ _).trans (List.length_replicate ..)), (cn_one _ _), rfl, fun ac3 wd3 FF3 MM3 => then_n ?_⟩))
  have MMr5 : MemS (fun k => k < w0.heap.size ∧ ∀ x ∈ O, x.1 ≠ k) w0 wd3 ((bu, .cells (cn .u8 (genL 16 (fun j => (shaN (packN [X] ++ packN Ps)).getD j 0) 0)) 35) :: (bk, .cells (cn .u8 (shaN (packN [X] ++ packN Ps))) 31) :: (bo, .cells (cn .u8 (List.replicate 16 0)) 35) :: O) [] := by rw [← genL_zero 16 (fun j => (shaN (packN [X] ++ packN Ps)).getD j 0)]; exact MM3
  refine wp_seq ?_
  refine wp_seq (rg_seq FF3 MMr5 [o_] [6, 5, 4, 7] (fun Kt => Kt [(7, .int .i64 (0 : Nat)), (6, .pointer (some ⟨bu, 0, none⟩)), (5, .pointer (some ⟨bk, 0, none⟩)), (4, .pointer (some ⟨bo, 0, none⟩))] ((bu, .cells (cn .u8 (genL 16 (fun j => (shaN (packN [X] ++ packN Ps)).getD j 0) 0)) 35) :: (bk, .cells (cn .u8 (shaN (packN [X] ++ packN Ps))) 31) :: (bo, .cells (cn .u8 (List.replicate 16 0)) 35) :: O)) (by kernel_rfl) (fun _ => by kernel_rfl) (fun ac4 wd4 FF4 MM4 => then_n ?_))
  refine wp_for2 (fun a' w' => ∃ i : Nat, i ≤ 16 ∧ Fr 22 a' [(7, .int .i64 (i : Nat)), (6, .pointer (some ⟨bu, 0, none⟩)), (5, .pointer (some ⟨bk, 0, none⟩)), (4, .pointer (some ⟨bo, 0, none⟩))] ∧ MemS (fun k => k < w0.heap.size ∧ ∀ x ∈ O, x.1 ≠ k) w0 w' ((bu, .cells (cn .u8 (genL 16 (fun j => (shaN (packN [X] ++ packN Ps)).getD j 0) i)) 35) :: (bk, .cells (cn .u8 (shaN (packN [X] ++ packN Ps))) 31) :: (bo, .cells (cn .u8 (List.replicate 16 0)) 35) :: O) []) (fun a' _ => (16 - cnt 7 a').toNat) ⟨0, by omega, FF4.pick [0, 1, 2, 3], MM4⟩ ?_
  rintro ac5 wd5 ⟨i, hi, FF5, MM5⟩
  have hci := cnt_of (FF5.get 0 rfl)
  refine rg_seq FF5 MM5 [o_, o_] [7, 6, 5, 4, 13] (fun Kt => Kt [(13, .bool (decide (i < 16))), (7, .int .i64 (i : Nat)), (6, .pointer (some ⟨bu, 0, none⟩)), (5, .pointer (some ⟨bk, 0, none⟩)), (4, .pointer (some ⟨bo, 0, none⟩))] ((bu, .cells (cn .u8 (genL 16 (fun j => (shaN (packN [X] ++ packN Ps)).getD j 0) i)) 35) :: (bk, .cells (cn .u8 (shaN (packN [X] ++ packN Ps))) 31) :: (bo, .cells (cn .u8 (List.replicate 16 0)) 35) :: O)) (by kernel_rfl) (fun _ => by kernel_rfl) (fun ac6 wd6 FF6 MM6 => ?_)
  by_cases hlti : i < 16
  · skip
    refine then_n (.inl ⟨(FF6.ev 0 rfl).trans (dec_t hlti), ?_⟩)
    refine rg_seq FF6 MM6 [o_, o_, w_ 1, l_ 1 (.int .u8 ((shaN (packN [X] ++ packN Ps)).getD i 0 : Nat)), w_ 1, s_ 0 (.cells (cn .u8 (genL 16 (fun j => (shaN (packN [X] ++ packN Ps)).getD j 0) (i + 1))) 35)] [7, 6, 5, 4] (fun Kt => i < 32 ∧ bk = bk ∧ (cn .u8 (shaN (packN [X] ++ packN Ps)))[i]? = some (.int .u8 ((shaN (packN [X] ++ packN Ps)).getD i 0 : Nat)) ∧ i < 16 ∧ bu = bu ∧ i < (cn .u8 (genL 16 (fun j => (shaN (packN [X] ++ packN Ps)).getD j 0) i)).size ∧ (((0, 0)).2 = 0 ∨ i < ((0, 0)).1) ∧ (cn .u8 (genL 16 (fun j => (shaN (packN [X] ++ packN Ps)).getD j 0) i)).setIfInBounds i (.int .u8 ((shaN (packN [X] ++ packN Ps)).getD i 0 : Nat)) = cn .u8 (genL 16 (fun j => (shaN (packN [X] ++ packN Ps)).getD j 0) (i + 1)) ∧ Kt [(7, .int .i64 (i : Nat)), (6, .pointer (some ⟨bu, 0, none⟩)), (5, .pointer (some ⟨bk, 0, none⟩)), (4, .pointer (some ⟨bo, 0, none⟩))] ((bu, .cells (cn .u8 (genL 16 (fun j => (shaN (packN [X] ++ packN Ps)).getD j 0) (i + 1))) 35) :: (bk, .cells (cn .u8 (shaN (packN [X] ++ packN Ps))) 31) :: (bo, .cells (cn .u8 (List.replicate 16 0)) 35) :: O)) (by kernel_rfl) (fun _ => by kernel_rfl) (⟨(by omega), rfl, (cn_get _ _ _ (by rw [(shaN_bytes _).len]; have := hi; have := hlti; omega)), (by omega), rfl, (by rw [cn_size, (genL_len _ _ _)]; omega), (.inl rfl), ((cn_set _ _ _ _).trans (congrArg _ (genL_step _ _ i (by omega) rfl))), fun ac7 wd7 FF7 MM7 => ?_⟩)
    refine inb_n (then_n ?_)
    refine rg_seq FF7 MM7 [o_, o_, o_] [7, 6, 5, 4] (fun Kt => i + 1 < 9223372036854775808 ∧ Kt [(7, .int .i64 (i + 1 : Nat)), (6, .pointer (some ⟨bu, 0, none⟩)), (5, .pointer (some ⟨bk, 0, none⟩)), (4, .pointer (some ⟨bo, 0, none⟩))] ((bu, .cells (cn .u8 (genL 16 (fun j => (shaN (packN [X] ++ packN Ps)).getD j 0) (i + 1))) 35) :: (bk, .cells (cn .u8 (shaN (packN [X] ++ packN Ps))) 31) :: (bo, .cells (cn .u8 (List.replicate 16 0)) 35) :: O)) (by kernel_rfl) (fun _ => by kernel_rfl) (⟨(by omega), fun ac8 wd8 FF8 MM8 => ?_⟩)
    have hdi := cnt_of (FF8.get 0 rfl)
    refine then_n ⟨⟨i + 1, by omega, FF8.pick [0, 1, 2, 3], MM8⟩, ?_⟩
    rw [hci, hdi]; omega
  · skip
    refine then_n (.inr ⟨(FF6.ev 0 rfl).trans (dec_f hlti), ?_⟩)
    obtain rfl : i = 16 := by omega
    refine then_n ?_
    refine wp_seq (rg_seq FF6 MM6 [b_ 0, b_ 2] [7, 6, 5, 4] (fun Kt => bu = bu ∧ (cn .u8 (genL 16 (fun j => (shaN (packN [X] ++ packN Ps)).getD j 0) 16)).size = 16 ∧ bo = bo ∧ (cn .u8 (List.replicate 16 0)).size = 16 ∧ (cn .u8 (genL 16 (fun j => (shaN (packN [X] ++ packN Ps)).getD j 0) 16)).size = 16 ∧ (cn .u8 (genL 16 (fun j => (shaN (packN [X] ++ packN Ps)).getD j 0) 16)).all (·.oneCell') = true ∧ (0, 0).2 = 0 ∧ Kt [(7, .int .i64 (16 : Nat)), (6, .pointer (some ⟨bu, 0, none⟩)), (5, .pointer (some ⟨bk, 0, none⟩)), (4, .pointer (some ⟨bo, 0, none⟩))] ((bu, .cells (cn .u8 (genL 16 (fun j => (shaN (packN [X] ++ packN Ps)).getD j 0) 16)) 35) :: (bk, .cells (cn .u8 (shaN (packN [X] ++ packN Ps))) 31) :: (bo, .cells (cn .u8 (genL 16 (fun j => (shaN (packN [X] ++ packN Ps)).getD j 0) 16)) 35) :: O)) (by kernel_rfl) (fun _ => by kernel_rfl) (⟨rfl, ((cn_size _ _).trans (genL_len _ _ _)), rfl, ((cn_size _ _).trans (List.length_replicate ..)), ((cn_size _ _).trans (genL_len _ _ _)), (cn_one _ _), rfl, fun ac9 wd9 FF9 MM9 => then_n ?_⟩))
    refine wp_ret ?_
    repeat first | refine then_ret ?_ | refine inb_ret ?_
    exact (retc FF9 MM9 (k := 16) (i := 2) (j := 3) Tryd.results14 rfl rfl Tryd.underlying35 rfl (by kernel_rfl) ((cn_size _ _).trans (genL_len _ _ _)) ⟨by rw [genI _ (shaN_bytes _).len]; rfl, MM9.belowN H (fun x hx => List.mem_cons_of_mem _ (List.mem_cons_of_mem _ (List.mem_cons_of_mem _ (hx))))⟩)
theorem rdid_any (X : List Nat) (hX : ∀ i, X.getD i 0 < 256) (Ps : List (List Nat)) (hP : ∀ X ∈ Ps, ∀ i, X.getD i 0 < 256) (hl : X.length + (packN Ps).length < 100000000) (p : Option Addr) (cap : Nat) (w0 : World) (h : StrsIn w0 p Ps) :
    Calls Tryd.prog 14 #[.string (bs X), .slice p Ps.length cap] w0 fun e w' => e = .returned (.agg (cn .u8 (idN X Ps))) ∧ Below w0.heap.size w0 w' := by
  obtain ⟨O, hD, H, hO⟩ := strsO_of h
  exact rdid_O O hD X hX Ps hP hl p cap hO w0 H
set_option maxRecDepth 100000 in
theorem rround_any (n : Nat) (hn : n < 18446744073709551616) (w0 : World) :
    Calls Tryd.prog 16 #[.int .u64 (n : Nat)] w0 fun e w' => e = .returned (.string (bs (leN 8 n))) ∧ Below w0.heap.size w0 w' := by
  refine enter_fr Tryd.func16 rfl Tryd.ntmps16 (by simp) fun ac (FF : Fr 19 ac [(0, .int .u64 (n : Nat))]) => ?_
  have MM := MemS.start w0
  refine wp_seq (rg_seq FF MM [o_] [0, 2] (fun Kt => Kt [(2, .string (bs [])), (0, .int .u64 (n : Nat))] []) (by kernel_rfl) (fun _ => by kernel_rfl) (fun ac1 wd1 FF1 MM1 => then_n ?_))
  refine wp_seq (rg_seq FF1 MM1 [o_, o_, b_ 0] [2, 0, 3] (fun Kt => ∀ bo, bo = bo ∧ (cn .u8 (List.replicate 8 0)).size = 8 ∧ (cn .u8 (List.replicate 8 0)).size = 8 ∧ (cn .u8 (List.replicate 8 0)).all (·.oneCell') = true ∧ (0, 0).2 = 0 ∧ Kt [(3, .pointer (some ⟨bo, 0, none⟩)), (2, .string (bs [])), (0, .int .u64 (n : Nat))] [(bo, .cells (cn .u8 (List.replicate 8 0)) 63)]) (by kernel_rfl) (fun _ => by kernel_rfl) (fun bo => ⟨rfl, ((cn_size _ _).trans (List.length_replicate ..)), ((cn_size _ _).trans (List.length_replicate ..)), (cn_one _ _), rfl, fun ac2 wd2 FF2 MM2 => then_n ?_⟩))
  have MMr4 : MemS (fun k => k < w0.heap.size) w0 wd2 [(bo, .cells (cn .u8 (genL 8 (leF n) 0)) 63)] [] := by rw [← genL_zero 8 (leF n)]; exact MM2
  refine wp_seq ?_
  refine wp_seq (rg_seq FF2 MMr4 [o_] [3, 2, 0, 4] (fun Kt => Kt [(4, .int .i64 (0 : Nat)), (3, .pointer (some ⟨bo, 0, none⟩)), (2, .string (bs [])), (0, .int .u64 (n : Nat))] [(bo, .cells (cn .u8 (genL 8 (leF n) 0)) 63)]) (by kernel_rfl) (fun _ => by kernel_rfl) (fun ac3 wd3 FF3 MM3 => then_n ?_))
  refine wp_for2 (fun a' w' => ∃ i : Nat, i ≤ 8 ∧ Fr 19 a' [(4, .int .i64 (i : Nat)), (3, .pointer (some ⟨bo, 0, none⟩)), (2, .string (bs [])), (0, .int .u64 (n : Nat))] ∧ MemS (fun k => k < w0.heap.size) w0 w' [(bo, .cells (cn .u8 (genL 8 (leF n) i)) 63)] []) (fun a' _ => (8 - cnt 4 a').toNat) ⟨0, by omega, FF3.pick [0, 1, 2, 3], MM3⟩ ?_
  rintro ac4 wd4 ⟨i, hi, FF4, MM4⟩
  have hci := cnt_of (FF4.get 0 rfl)
  refine rg_seq FF4 MM4 [o_, o_] [4, 3, 2, 0, 7] (fun Kt => Kt [(7, .bool (decide (i < 8))), (4, .int .i64 (i : Nat)), (3, .pointer (some ⟨bo, 0, none⟩)), (2, .string (bs [])), (0, .int .u64 (n : Nat))] [(bo, .cells (cn .u8 (genL 8 (leF n) i)) 63)]) (by kernel_rfl) (fun _ => by kernel_rfl) (fun ac5 wd5 FF5 MM5 => ?_)
  by_cases hlti : i < 8
  · skip
    refine then_n (.inl ⟨(FF5.ev 0 rfl).trans (dec_t hlti), ?_⟩)
    refine rg_seq FF5 MM5 [o_, o_, o_, o_, o_, t_ (.int .u8 (leF n i : Nat)), w_ 1, s_ 0 (.cells (cn .u8 (genL 8 (leF n) (i + 1))) 63)] [4, 3, 2, 0] (fun Kt => 8 * i < 9223372036854775808 ∧ 8 * i ≤ 64 ∧ Value.int .u8 ((n / (2 ^ (8 * i))) % 256 : Nat) = .int .u8 (leF n i : Nat) ∧ i < 8 ∧ bo = bo ∧ i < (cn .u8 (genL 8 (leF n) i)).size ∧ (((0, 0)).2 = 0 ∨ i < ((0, 0)).1) ∧ (cn .u8 (genL 8 (leF n) i)).setIfInBounds i (.int .u8 (leF n i : Nat)) = cn .u8 (genL 8 (leF n) (i + 1)) ∧ Kt [(4, .int .i64 (i : Nat)), (3, .pointer (some ⟨bo, 0, none⟩)), (2, .string (bs [])), (0, .int .u64 (n : Nat))] [(bo, .cells (cn .u8 (genL 8 (leF n) (i + 1))) 63)]) (by kernel_rfl) (fun _ => by kernel_rfl) (⟨(by omega), (by have := hn; omega), rfl, (by omega), rfl, (by rw [cn_size, (genL_len _ _ _)]; omega), (.inl rfl), ((cn_set _ _ _ _).trans (congrArg _ (genL_step _ _ i hlti rfl))), fun ac6 wd6 FF6 MM6 => ?_⟩)
    refine inb_n (then_n ?_)
    refine rg_seq FF6 MM6 [o_, o_, o_] [4, 3, 2, 0] (fun Kt => i + 1 < 9223372036854775808 ∧ Kt [(4, .int .i64 (i + 1 : Nat)), (3, .pointer (some ⟨bo, 0, none⟩)), (2, .string (bs [])), (0, .int .u64 (n : Nat))] [(bo, .cells (cn .u8 (genL 8 (leF n) (i + 1))) 63)]) (by kernel_rfl) (fun _ => by kernel_rfl) (⟨(by omega), fun ac7 wd7 FF7 MM7 => ?_⟩)
    have hdi := cnt_of (FF7.get 0 rfl)
    refine then_n ⟨⟨i + 1, by omega, FF7.pick [0, 1, 2, 3], MM7⟩, ?_⟩
    rw [hci, hdi]; omega
  · skip
    refine then_n (.inr ⟨(FF5.ev 0 rfl).trans (dec_f hlti), ?_⟩)
    obtain rfl : i = 8 := by omega
    refine then_n ?_
    refine wp_seq (rg_seq FF5 MM5 [o_, l_ 0 (.string (bs (genL 8 (leF n) 8))), o_] [4, 3, 2, 0] (fun Kt => 0 ≤ 8 ∧ 8 ≤ 8 ∧ 0 < 8 ∧ bo = bo ∧ StrAt (cn .u8 (genL 8 (leF n) 8)) 0 8 (bs (genL 8 (leF n) 8)) ∧ Kt [(2, .string (bs (genL 8 (leF n) 8))), (4, .int .i64 (8 : Nat)), (3, .pointer (some ⟨bo, 0, none⟩)), (0, .int .u64 (n : Nat))] [(bo, .cells (cn .u8 (genL 8 (leF n) 8)) 63)]) (by kernel_rfl) (fun _ => by kernel_rfl) (⟨(by decide), (by decide), (by decide), rfl, (str_all (genL_len _ _ _) (genL_lt (by decide) (leF_lt n) 8)), fun ac8 wd8 FF8 MM8 => then_n ?_⟩))
    refine wp_ret ?_
    repeat first | refine then_ret ?_ | refine inb_ret ?_
    exact (ret_fr FF8 0 Tryd.results16 rfl ⟨rfl, MM8.below⟩)
theorem non0 (a : Nat) : [a % 256, a / 256 % 256, a / 65536 % 256, a / 16777216 % 256, 0, 0, 0, 0, 0, 0, 0, 0] = leN 4 a ++ List.replicate 8 0 := by rw [← leN4]; rfl
theorem nonE (a r : Nat) : ovr (leN 4 a ++ List.replicate 8 0) 4 (leF r) 8 = nonN a r := by
  rw [ovr, List.drop_eq_nil_of_le (by rw [List.length_append, leN_len]; decide), List.take_left' (leN_len 4 a), nonN, leN_map 8, List.append_nil]
set_option maxRecDepth 100000 in
theorem rnonce_any (a r : Nat) (_ha : a < 4294967296) (hr : r < 18446744073709551616) (w0 : World) :
    Calls Tryd.prog 18 #[.int .u32 (a : Nat), .int .u64 (r : Nat)] w0 fun e w' => e = .returned (.agg (cn .u8 (nonN a r))) ∧ Below w0.heap.size w0 w' := by
  refine enter_fr Tryd.func18 rfl Tryd.ntmps18 (by simp) fun ac (FF : Fr 32 ac [(0, .int .u32 (a : Nat)), (1, .int .u64 (r : Nat))]) => ?_
  have MM := MemS.start w0
  refine wp_seq (rg_seq FF MM [o_] [0, 1, 4] (fun Kt => ∀ bo, Kt [(4, .pointer (some ⟨bo, 0, none⟩)), (0, .int .u32 (a : Nat)), (1, .int .u64 (r : Nat))] [(bo, .cells (cn .u8 (List.replicate 12 0)) 40)]) (by kernel_rfl) (fun _ => by kernel_rfl) (fun bo => fun ac1 wd1 FF1 MM1 => then_n ?_))
  refine wp_seq (rg_seq FF1 MM1 [o_, o_, o_, o_, o_, o_, o_, o_, o_, o_, o_, o_, o_, b_ 0] [4, 1, 5] (fun Kt => 8 ≤ 32 ∧ 16 ≤ 32 ∧ 24 ≤ 32 ∧ ∀ bu, bu = bu ∧ (cn .u8 (List.replicate 12 0)).size = 12 ∧ (cn .u8 ([a % 256, (a / 256) % 256, (a / 65536) % 256, (a / 16777216) % 256, 0, 0, 0, 0, 0, 0, 0, 0])).size = 12 ∧ (cn .u8 ([a % 256, (a / 256) % 256, (a / 65536) % 256, (a / 16777216) % 256, 0, 0, 0, 0, 0, 0, 0, 0])).all (·.oneCell') = true ∧ (0, 0).2 = 0 ∧ Kt [(5, .pointer (some ⟨bu, 0, none⟩)), (4, .pointer (some ⟨bo, 0, none⟩)), (1, .int .u64 (r : Nat))] [(bu, .cells (cn .u8 ([a % 256, (a / 256) % 256, (a / 65536) % 256, (a / 16777216) % 256, 0, 0, 0, 0, 0, 0, 0, 0])) 40), (bo, .cells (cn .u8 (List.replicate 12 0)) 40)]) (by kernel_rfl) (fun _ => by kernel_rfl) (⟨(by decide), (by decide), (by decide), fun bu => ⟨rfl, ((cn_size _ _).trans (List.length_replicate ..)), ((cn_size _ _).trans rfl), (cn_one _ _), rfl, fun ac2 wd2 FF2 MM2 => then_n ?_⟩⟩))
  have MMu : MemS (fun k => k < w0.heap.size) w0 wd2 [(bu, .cells (cn .u8 (ovr (leN 4 a ++ List.replicate 8 0) 4 (leF r) 0)) 40), (bo, .cells (cn .u8 (List.replicate 12 0)) 40)] [] := by rw [ovr_zero, ← non0]; exact MM2
  refine wp_seq ?_
  refine wp_seq (rg_seq FF2 MMu [o_] [5, 4, 1, 6] (fun Kt => Kt [(6, .int .i64 (0 : Nat)), (5, .pointer (some ⟨bu, 0, none⟩)), (4, .pointer (some ⟨bo, 0, none⟩)), (1, .int .u64 (r : Nat))] [(bu, .cells (cn .u8 (ovr (leN 4 a ++ List.replicate 8 0) 4 (leF r) 0)) 40), (bo, .cells (cn .u8 (List.replicate 12 0)) 40)]) (by kernel_rfl) (fun _ => by kernel_rfl) (fun ac3 wd3 FF3 MM3 => then_n ?_))
  refine wp_for2 (fun a' w' => ∃ i : Nat, i ≤ 8 ∧ Fr 32 a' [(6, .int .i64 (i : Nat)), (5, .pointer (some ⟨bu, 0, none⟩)), (4, .pointer (some ⟨bo, 0, none⟩)), (1, .int .u64 (r : Nat))] ∧ MemS (fun k => k < w0.heap.size) w0 w' [(bu, .cells (cn .u8 (ovr (leN 4 a ++ List.replicate 8 0) 4 (leF r) i)) 40), (bo, .cells (cn .u8 (List.replicate 12 0)) 40)] []) (fun a' _ => (8 - cnt 6 a').toNat) ⟨0, by omega, FF3.pick [0, 1, 2, 3], MM3⟩ ?_
  rintro ac4 wd4 ⟨i, hi, FF4, MM4⟩
  have hci := cnt_of (FF4.get 0 rfl)
  refine rg_seq FF4 MM4 [o_, o_] [6, 5, 4, 1, 20] (fun Kt => Kt [(20, .bool (decide (i < 8))), (6, .int .i64 (i : Nat)), (5, .pointer (some ⟨bu, 0, none⟩)), (4, .pointer (some ⟨bo, 0, none⟩)), (1, .int .u64 (r : Nat))] [(bu, .cells (cn .u8 (ovr (leN 4 a ++ List.replicate 8 0) 4 (leF r) i)) 40), (bo, .cells (cn .u8 (List.replicate 12 0)) 40)]) (by kernel_rfl) (fun _ => by kernel_rfl) (fun ac5 wd5 FF5 MM5 => ?_)
  by_cases hlti : i < 8
  · skip
    refine then_n (.inl ⟨(FF5.ev 0 rfl).trans (dec_t hlti), ?_⟩)
    refine rg_seq FF5 MM5 [o_, o_, o_, o_, o_, o_, t_ (.int .u8 (leF r i : Nat)), w_ 1, s_ 0 (.cells (cn .u8 (ovr (leN 4 a ++ List.replicate 8 0) 4 (leF r) (i + 1))) 40)] [6, 5, 4, 1] (fun Kt => 4 + i < 9223372036854775808 ∧ 8 * i < 9223372036854775808 ∧ 8 * i ≤ 64 ∧ Value.int .u8 ((r / (2 ^ (8 * i))) % 256 : Nat) = .int .u8 (leF r i : Nat) ∧ (4 + i) < 12 ∧ bu = bu ∧ 4 + i < (cn .u8 (ovr (leN 4 a ++ List.replicate 8 0) 4 (leF r) i)).size ∧ (((0, 0)).2 = 0 ∨ 4 + i < ((0, 0)).1) ∧ (cn .u8 (ovr (leN 4 a ++ List.replicate 8 0) 4 (leF r) i)).setIfInBounds (4 + i) (.int .u8 (leF r i : Nat)) = cn .u8 (ovr (leN 4 a ++ List.replicate 8 0) 4 (leF r) (i + 1)) ∧ Kt [(6, .int .i64 (i : Nat)), (5, .pointer (some ⟨bu, 0, none⟩)), (4, .pointer (some ⟨bo, 0, none⟩)), (1, .int .u64 (r : Nat))] [(bu, .cells (cn .u8 (ovr (leN 4 a ++ List.replicate 8 0) 4 (leF r) (i + 1))) 40), (bo, .cells (cn .u8 (List.replicate 12 0)) 40)]) (by kernel_rfl) (fun _ => by kernel_rfl) (⟨(by omega), (by omega), (by have := hr; omega), rfl, (by omega), rfl, (by rw [cn_size, (ovr_len (n := 12) _ (by simp [leN_len]) (by omega))]; omega), (.inl rfl), ((cn_set _ _ _ _).trans (congrArg _ (ovr_step _ (by rw [List.length_append, leN_len, List.length_replicate]; omega) rfl))), fun ac6 wd6 FF6 MM6 => ?_⟩)
    refine inb_n (then_n ?_)
    refine rg_seq FF6 MM6 [o_, o_, o_] [6, 5, 4, 1] (fun Kt => i + 1 < 9223372036854775808 ∧ Kt [(6, .int .i64 (i + 1 : Nat)), (5, .pointer (some ⟨bu, 0, none⟩)), (4, .pointer (some ⟨bo, 0, none⟩)), (1, .int .u64 (r : Nat))] [(bu, .cells (cn .u8 (ovr (leN 4 a ++ List.replicate 8 0) 4 (leF r) (i + 1))) 40), (bo, .cells (cn .u8 (List.replicate 12 0)) 40)]) (by kernel_rfl) (fun _ => by kernel_rfl) (⟨(by omega), fun ac7 wd7 FF7 MM7 => ?_⟩)
    have hdi := cnt_of (FF7.get 0 rfl)
    refine then_n ⟨⟨i + 1, by omega, FF7.pick [0, 1, 2, 3], MM7⟩, ?_⟩
    rw [hci, hdi]; omega
  · skip
    refine then_n (.inr ⟨(FF5.ev 0 rfl).trans (dec_f hlti), ?_⟩)
    obtain rfl : i = 8 := by omega
    refine then_n ?_
    refine wp_seq (rg_seq FF5 MM5 [b_ 0, b_ 1] [6, 5, 4, 1] (fun Kt => bu = bu ∧ (cn .u8 (ovr (leN 4 a ++ List.replicate 8 0) 4 (leF r) 8)).size = 12 ∧ bo = bo ∧ (cn .u8 (List.replicate 12 0)).size = 12 ∧ (cn .u8 (ovr (leN 4 a ++ List.replicate 8 0) 4 (leF r) 8)).size = 12 ∧ (cn .u8 (ovr (leN 4 a ++ List.replicate 8 0) 4 (leF r) 8)).all (·.oneCell') = true ∧ (0, 0).2 = 0 ∧ Kt [(6, .int .i64 (8 : Nat)), (5, .pointer (some ⟨bu, 0, none⟩)), (4, .pointer (some ⟨bo, 0, none⟩)), (1, .int .u64 (r : Nat))] [(bu, .cells (cn .u8 (ovr (leN 4 a ++ List.replicate 8 0) 4 (leF r) 8)) 40), (bo, .cells (cn .u8 (ovr (leN 4 a ++ List.replicate 8 0) 4 (leF r) 8)) 40)]) (by kernel_rfl) (fun _ => by kernel_rfl) (⟨rfl, ((cn_size _ _).trans (ovr_len (n := 12) _ (by simp [leN_len]) (by omega))), rfl, ((cn_size _ _).trans (List.length_replicate ..)), ((cn_size _ _).trans (ovr_len (n := 12) _ (by simp [leN_len]) (by omega))), (cn_one _ _), rfl, fun ac8 wd8 FF8 MM8 => then_n ?_⟩))
    refine wp_ret ?_
    repeat first | refine then_ret ?_ | refine inb_ret ?_
    exact (retc FF8 MM8 (k := 12) (i := 1) (j := 2) Tryd.results18 rfl rfl Tryd.underlying40 rfl (by kernel_rfl) ((cn_size _ _).trans (ovr_len (n := 12) _ (by simp [leN_len]) (by omega))) ⟨by rw [nonE], MM8.below⟩)

end Go.Proofs.YtkpindnekaijfaaDoor
