/- Package derive: Key, ID, Round, Nonce. -/
import Derived.Test.YtkpindnekaijfaaDoorD2
namespace Go.Proofs.YtkpindnekaijfaaDoor
open Go.RowKit

theorem strsO_of {w : World} {p : Option Addr} {Ps : List (List Nat)} (h : StrsIn w p Ps) : ∃ O : Blks, Distinct O ∧ Has w O ∧ StrsO O p Ps := by
  rcases h with rfl | ⟨b, off, cs, T, fr, rfl, hb, hc⟩
  · exact ⟨[], trivial, fun i x h => by simp at h, .inl rfl⟩
  · refine ⟨[(b, .cells cs T fr)], ⟨fun y hy => (nomatch hy), trivial⟩, fun i x h => ?_, .inr ⟨b, off, cs, T, fr, rfl, by simp, hc⟩⟩
    match i, h with
    | 0, h => cases h; exact hb
    | i + 1, h => simp at h
/-- Blocks that are there: each once. -/
theorem add_blk {w : World} {O : Blks} (hD : Distinct O) (H : Has w O) {b : Nat} {ob : Obj} (hb : w.heap[b]? = some ob) : ∃ O' : Blks, Distinct O' ∧ Has w O' ∧ (∀ x ∈ O, x ∈ O') ∧ (b, ob) ∈ O' := by
  by_cases h : ∃ x ∈ O, x.1 = b
  · obtain ⟨x, hx, rfl⟩ := h
    have := Has.mem H hx
    rw [hb] at this
    exact ⟨O, hD, H, fun _ h => h, by rw [Option.some.inj this]; exact hx⟩
  · refine ⟨(b, ob) :: O, ⟨fun y hy e => h ⟨y, hy, e⟩, hD⟩, fun i x hx => ?_, fun x hx => List.mem_cons_of_mem _ hx, by simp⟩
    match i, hx with
    | 0, hx => cases hx; exact hb
    | i + 1, hx => exact H i x (by simpa using hx)
theorem add_strs {w : World} {O : Blks} (hD : Distinct O) (H : Has w O) {p : Option Addr} {Ps : List (List Nat)} (h : StrsIn w p Ps) : ∃ O' : Blks, Distinct O' ∧ Has w O' ∧ (∀ x ∈ O, x ∈ O') ∧ StrsO O' p Ps := by
  rcases h with rfl | ⟨b, off, cs, T, fr, rfl, hb, hc⟩
  · exact ⟨O, hD, H, fun _ h => h, .inl rfl⟩
  · obtain ⟨O', h1, h2, h3, h4⟩ := add_blk hD H hb
    exact ⟨O', h1, h2, h3, .inr ⟨b, off, cs, T, fr, rfl, h4, hc⟩⟩
theorem tabO_of {w : World} {ob : Obj} (hg : w.heap[0]? = some ob) {p : Option Addr} {Ps : List (List Nat)} (h : StrsIn w p Ps) : ∃ O : Blks, Distinct O ∧ Has w O ∧ (0, ob) ∈ O ∧ StrsO O p Ps := by
  obtain ⟨O, h1, h2, _, h4⟩ := add_blk (O := []) trivial (fun i x h => by simp at h) hg
  obtain ⟨O', h1', h2', h3', h4'⟩ := add_strs h1 h2 h
  exact ⟨O', h1', h2', h3' _ h4, h4'⟩
/-- The first sixteen bytes of a key. -/
def idN (X : List Nat) (Ps : List (List Nat)) : List Nat := (shaN (packN [X] ++ packN Ps)).take 16
theorem idN_len (X : List Nat) (Ps : List (List Nat)) : (idN X Ps).length = 16 := by rw [idN, List.length_take, (shaN_bytes _).len]; rfl
theorem idN_lt (X : List Nat) (Ps : List (List Nat)) (i : Nat) : (idN X Ps).getD i 0 < 256 := take_lt (shaN_bytes _).lt i
theorem cut0 (X : List Nat) : (X.drop 0).take 16 = X.take 16 := rfl
set_option maxRecDepth 100000 in
theorem key_O (O : Blks) (hD : Distinct O) (Tg : TypeId) (fg : Nat × Nat) (hK : (0, Obj.cells (cn .u32 kTab) Tg fg) ∈ O) (X : List Nat) (hX : ∀ i, X.getD i 0 < 256) (Ps : List (List Nat)) (hP : ∀ X ∈ Ps, ∀ i, X.getD i 0 < 256) (hl : X.length + (packN Ps).length < 100000000) (p : Option Addr) (cap : Nat) (hO : StrsO O p Ps) (w0 : World) (H : Has w0 O) :
    Calls Tryd.prog 11 #[.string (bs X), .slice p Ps.length cap] w0 fun e w' => e = .returned (.agg (cn .u8 (shaN (packN [X] ++ packN Ps)))) ∧ Below w0.heap.size w0 w' := by
  refine enter_fr Tryd.func11 rfl Tryd.ntmps11 (by simp) fun ac (FF : Fr 12 ac [(0, .string (bs X)), (1, .slice p Ps.length cap)]) => ?_
  have MM : MemS (fun k => k < w0.heap.size ∧ ∀ x ∈ O, x.1 ≠ k) w0 w0 O [] := MemS.startN H hD
  have hlX : (packN [X]).length = 4 + X.length := by simp [packN_len]
  refine wp_seq (rg_seq FF MM [o_] [0, 1, 4] (fun Kt => ∀ bo, Kt [(4, .pointer (some ⟨bo, 0, none⟩)), (0, .string (bs X)), (1, .slice p Ps.length cap)] ((bo, .cells (cn .u8 (List.replicate 32 0)) 32) :: O)) (by kernel_rfl) (fun _ => by kernel_rfl) (fun bo => fun ac1 wd1 FF1 MM1 => then_n ?_))
  refine wp_seq (rg_seq FF1 MM1 [o_, o_, u_ 1 (.string (bs (packN [X]))), o_, u_ 1 (.string (bs (packN Ps))), o_, u_ 1 (.agg (cn .u8 (shaN ((packN [X]) ++ (packN Ps))))), b_ 2] [4] (fun Kt => ∀ ba, CallP Tryd.prog 9 [.slice (some ⟨ba, 0, none⟩) 1 1] ((ba, .cells (#[.string (bs X)] : Array Value) 9) :: (bo, .cells (cn .u8 (List.replicate 32 0)) 32) :: O) (.string (bs (packN [X]))) ∧ CallP Tryd.prog 9 [.slice p Ps.length cap] ((ba, .cells (#[.string (bs X)] : Array Value) 9) :: (bo, .cells (cn .u8 (List.replicate 32 0)) 32) :: O) (.string (bs (packN Ps))) ∧ ∀ bb, CallP Tryd.prog 24 [.slice (some ⟨bb, 0, none⟩) 2 2] ((bb, .cells (#[.string (bs (packN [X])), .string (bs (packN Ps))] : Array Value) 9) :: (ba, .cells (#[.string (bs X)] : Array Value) 9) :: (bo, .cells (cn .u8 (List.replicate 32 0)) 32) :: O) (.agg (cn .u8 (shaN ((packN [X]) ++ (packN Ps))))) ∧ bo = bo ∧ (cn .u8 (List.replicate 32 0)).size = 32 ∧ (cn .u8 (shaN ((packN [X]) ++ (packN Ps)))).size = 32 ∧ (cn .u8 (shaN ((packN [X]) ++ (packN Ps)))).all (·.oneCell') = true ∧ (0, 0).2 = 0 ∧ Kt [(4, .pointer (some ⟨bo, 0, none⟩))] ((bb, .cells (#[.string (bs (packN [X])), .string (bs (packN Ps))] : Array Value) 9) :: (ba, .cells (#[.string (bs X)] : Array Value) 9) :: (bo, .cells (cn .u8 (shaN ((packN [X]) ++ (packN Ps)))) 32) :: O)) (by kernel_rfl) (fun _ => by kernel_rfl) (fun ba => ⟨⟨en_pack, fun w Hw => pack_any [X] (lt1 hX) (by rw [hlX]; omega) (some ⟨ba, 0, none⟩) 1 w (.inr ⟨ba, 0, _, _, _, rfl, Hw 0 _ rfl, (at1s X)⟩)⟩, ⟨en_pack, fun w Hw => pack_any Ps hP (by omega) p cap w (hO.at (Has.tl (Has.tl Hw)))⟩, fun bb => ⟨⟨en_ssum, fun w Hw => by have h0 := ssum_any Tg fg [packN [X], packN Ps] (lt2 (packN_lt (lt1 hX)) (packN_lt hP)) (by simp) _ 0 2 _ _ _ (at2s (packN [X]) (packN Ps)) (by simp only [flat2, List.length_append, hlX]; omega) w (Has.mem (Has.tl (Has.tl (Has.tl Hw))) hK) (Hw 0 _ rfl); rw [flat2] at h0; exact h0⟩, rfl, ((cn_size _ _).trans (List.length_replicate ..)), ((cn_size _ _).trans (shaN_bytes _).len), (cn_one _ _), rfl, fun ac2 wd2 FF2 MM2 => then_n ?_⟩⟩))
  refine wp_ret ?_
  repeat first | refine then_ret ?_ | refine inb_ret ?_
  exact (retc FF2 MM2 (k := 32) (i := 2) (j := 0) Tryd.results11 rfl rfl Tryd.underlying32 rfl (by kernel_rfl) ((cn_size _ _).trans (shaN_bytes _).len) ⟨rfl, MM2.belowN H (fun x hx => List.mem_cons_of_mem _ (List.mem_cons_of_mem _ (List.mem_cons_of_mem _ (hx))))⟩)
theorem key_any (Tg : TypeId) (fg : Nat × Nat) (X : List Nat) (hX : ∀ i, X.getD i 0 < 256) (Ps : List (List Nat)) (hP : ∀ X ∈ Ps, ∀ i, X.getD i 0 < 256) (hl : X.length + (packN Ps).length < 100000000) (p : Option Addr) (cap : Nat) (w0 : World) (h : StrsIn w0 p Ps) (hg : w0.heap[0]? = some (.cells (cn .u32 kTab) Tg fg)) :
    Calls Tryd.prog 11 #[.string (bs X), .slice p Ps.length cap] w0 fun e w' => e = .returned (.agg (cn .u8 (shaN (packN [X] ++ packN Ps)))) ∧ Below w0.heap.size w0 w' := by
  obtain ⟨O, hD, H, hK, hO⟩ := tabO_of hg h
  exact key_O O hD Tg fg hK X hX Ps hP hl p cap hO w0 H
set_option maxRecDepth 100000 in
theorem did_O (O : Blks) (hD : Distinct O) (Tg : TypeId) (fg : Nat × Nat) (hK : (0, Obj.cells (cn .u32 kTab) Tg fg) ∈ O) (X : List Nat) (hX : ∀ i, X.getD i 0 < 256) (Ps : List (List Nat)) (hP : ∀ X ∈ Ps, ∀ i, X.getD i 0 < 256) (hl : X.length + (packN Ps).length < 100000000) (p : Option Addr) (cap : Nat) (hO : StrsO O p Ps) (w0 : World) (H : Has w0 O) :
    Calls Tryd.prog 13 #[.string (bs X), .slice p Ps.length cap] w0 fun e w' => e = .returned (.agg (cn .u8 (idN X Ps))) ∧ Below w0.heap.size w0 w' := by
  refine enter_fr Tryd.func13 rfl Tryd.ntmps13 (by simp) fun ac (FF : Fr 12 ac [(0, .string (bs X)), (1, .slice p Ps.length cap)]) => ?_
  have MM : MemS (fun k => k < w0.heap.size ∧ ∀ x ∈ O, x.1 ≠ k) w0 w0 O [] := MemS.startN H hD
  refine wp_seq (rg_seq FF MM [o_] [0, 1, 4] (fun Kt => ∀ bo, Kt [(4, .pointer (some ⟨bo, 0, none⟩)), (0, .string (bs X)), (1, .slice p Ps.length cap)] ((bo, .cells (cn .u8 (List.replicate 16 0)) 36) :: O)) (by kernel_rfl) (fun _ => by kernel_rfl) (fun bo => fun ac1 wd1 FF1 MM1 => then_n ?_))
  refine wp_seq (rg_seq FF1 MM1 [o_, o_, u_ 1 (.agg (cn .u8 (shaN (packN [X] ++ packN Ps)))), o_, b_ 0] [4, 5] (fun Kt => CallP Tryd.prog 11 [.string (bs X), .slice p Ps.length cap] ((bo, .cells (cn .u8 (List.replicate 16 0)) 36) :: O) (.agg (cn .u8 (shaN (packN [X] ++ packN Ps)))) ∧ ∀ bk, bk = bk ∧ (cn .u8 (List.replicate 32 0)).size = 32 ∧ (cn .u8 (shaN (packN [X] ++ packN Ps))).size = 32 ∧ (cn .u8 (shaN (packN [X] ++ packN Ps))).all (·.oneCell') = true ∧ (0, 0).2 = 0 ∧ Kt [(5, .pointer (some ⟨bk, 0, none⟩)), (4, .pointer (some ⟨bo, 0, none⟩))] ((bk, .cells (cn .u8 (shaN (packN [X] ++ packN Ps))) 32) :: (bo, .cells (cn .u8 (List.replicate 16 0)) 36) :: O)) (by kernel_rfl) (fun _ => by kernel_rfl) (⟨⟨en_key, fun w Hw => key_any Tg fg X hX Ps hP hl p cap w (hO.at (Has.tl Hw)) (Has.mem (Has.tl Hw) hK)⟩, fun bk => ⟨rfl, ((cn_size _ _).trans (List.length_replicate ..)), ((cn_size _ _).trans (shaN_bytes _).len), (cn_one _ _), rfl, fun ac2 wd2 FF2 MM2 => then_n ?_⟩⟩))
  refine wp_seq (rg_seq FF2 MM2 [o_, o_, l_ 0 (.agg (cn .u8 (idN X Ps))), b_ 1] [5, 4] (fun Kt => 0 ≤ 16 ∧ 16 ≤ 32 ∧ 0 < 32 ∧ 16 ≤ 16 ∧ bk = bk ∧ PartAt (cn .u8 (shaN (packN [X] ++ packN Ps))) 0 (cn .u8 (idN X Ps)) ∧ (cn .u8 (idN X Ps)).size = 16 ∧ bo = bo ∧ (cn .u8 (List.replicate 16 0)).size = 16 ∧ (cn .u8 (idN X Ps)).size = 16 ∧ (cn .u8 (idN X Ps)).all (·.oneCell') = true ∧ (0, 0).2 = 0 ∧ Kt [(5, .pointer (some ⟨bk, 0, none⟩)), (4, .pointer (some ⟨bo, 0, none⟩))] ((bk, .cells (cn .u8 (shaN (packN [X] ++ packN Ps))) 32) :: (bo, .cells (cn .u8 (idN X Ps)) 36) :: O)) (by kernel_rfl) (fun _ => by kernel_rfl) (⟨(by decide), (by decide), (by decide), (by decide), rfl, (part_cut (off := 0) (len := 16) (shaN_bytes _).len (by decide)), ((cn_size _ _).trans (idN_len _ _)), rfl, ((cn_size _ _).trans (List.length_replicate ..)), ((cn_size _ _).trans (idN_len _ _)), (cn_one _ _), rfl, fun ac3 wd3 FF3 MM3 => then_n ?_⟩))
  refine wp_ret ?_
  repeat first | refine then_ret ?_ | refine inb_ret ?_
  exact (retc FF3 MM3 (k := 16) (i := 1) (j := 1) Tryd.results13 rfl rfl Tryd.underlying36 rfl (by kernel_rfl) ((cn_size _ _).trans (idN_len _ _)) ⟨rfl, MM3.belowN H (fun x hx => List.mem_cons_of_mem _ (List.mem_cons_of_mem _ (hx)))⟩)
theorem did_any (Tg : TypeId) (fg : Nat × Nat) (X : List Nat) (hX : ∀ i, X.getD i 0 < 256) (Ps : List (List Nat)) (hP : ∀ X ∈ Ps, ∀ i, X.getD i 0 < 256) (hl : X.length + (packN Ps).length < 100000000) (p : Option Addr) (cap : Nat) (w0 : World) (h : StrsIn w0 p Ps) (hg : w0.heap[0]? = some (.cells (cn .u32 kTab) Tg fg)) :
    Calls Tryd.prog 13 #[.string (bs X), .slice p Ps.length cap] w0 fun e w' => e = .returned (.agg (cn .u8 (idN X Ps))) ∧ Below w0.heap.size w0 w' := by
  obtain ⟨O, hD, H, hK, hO⟩ := tabO_of hg h
  exact did_O O hD Tg fg hK X hX Ps hP hl p cap hO w0 H
set_option maxRecDepth 100000 in
theorem round_any (n : Nat) (hn : n < 18446744073709551616) (w0 : World) :
    Calls Tryd.prog 15 #[.int .u64 (n : Nat)] w0 fun e w' => e = .returned (.string (bs (leN 8 n))) ∧ Below w0.heap.size w0 w' := by
  refine enter_fr Tryd.func15 rfl Tryd.ntmps15 (by simp) fun ac (FF : Fr 5 ac [(0, .int .u64 (n : Nat))]) => ?_
  have MM := MemS.start w0
  refine wp_seq (rg_seq FF MM [o_] [0, 2] (fun Kt => Kt [(2, .string (bs [])), (0, .int .u64 (n : Nat))] []) (by kernel_rfl) (fun _ => by kernel_rfl) (fun ac1 wd1 FF1 MM1 => then_n ?_))
  refine wp_seq (rg_seq FF1 MM1 [o_, t_ (.string (bs (leN 8 n))), o_] [2] (fun Kt => CallP Tryd.prog 22 [.int .u64 (n : Nat), .int .i64 (8 : Nat)] [] (.string (bs (leN 8 n))) ∧ Kt [(2, .string (bs (leN 8 n)))] []) (by kernel_rfl) (fun _ => by kernel_rfl) (⟨(callP_of en_lowest (lowest_any n 8 (by have := hn; omega) (by decide)) _), fun ac2 wd2 FF2 MM2 => then_n ?_⟩))
  refine wp_ret ?_
  repeat first | refine then_ret ?_ | refine inb_ret ?_
  exact (ret_fr FF2 0 Tryd.results15 rfl ⟨rfl, MM2.below⟩)
def nonN (a r : Nat) : List Nat := leN 4 a ++ leN 8 r
theorem nonN_len (a r : Nat) : (nonN a r).length = 12 := by rw [nonN, List.length_append, leN_len, leN_len]
theorem nonN_lt (a r i : Nat) : (nonN a r).getD i 0 < 256 := app_lt (leN_lt 4 a) (leN_lt 8 r) i
set_option maxRecDepth 100000 in
theorem nonce_any (a r : Nat) (ha : a < 4294967296) (hr : r < 18446744073709551616) (w0 : World) :
    Calls Tryd.prog 17 #[.int .u32 (a : Nat), .int .u64 (r : Nat)] w0 fun e w' => e = .returned (.agg (cn .u8 (nonN a r))) ∧ Below w0.heap.size w0 w' := by
  refine enter_fr Tryd.func17 rfl Tryd.ntmps17 (by simp) fun ac (FF : Fr 14 ac [(0, .int .u32 (a : Nat)), (1, .int .u64 (r : Nat))]) => ?_
  have MM := MemS.start w0
  refine wp_seq (rg_seq FF MM [o_] [0, 1, 4] (fun Kt => ∀ bo, Kt [(4, .pointer (some ⟨bo, 0, none⟩)), (0, .int .u32 (a : Nat)), (1, .int .u64 (r : Nat))] [(bo, .cells (cn .u8 (List.replicate 12 0)) 41)]) (by kernel_rfl) (fun _ => by kernel_rfl) (fun bo => fun ac1 wd1 FF1 MM1 => then_n ?_))
  refine wp_seq (wp_region_list ?_)
  refine rg_part 6 FF1 MM1 [o_, w_ 1, t_ (.string (bs (leN 4 a))), o_, t_ (.string (bs (leN 8 r))), t_ (.string (bs (nonN a r)))] [4, 10] (fun Kt => a < 18446744073709551616 ∧ CallP Tryd.prog 22 [.int .u64 (a : Nat), .int .i64 (4 : Nat)] [] (.string (bs (leN 4 a))) ∧ CallP Tryd.prog 15 [.int .u64 (r : Nat)] [] (.string (bs (leN 8 r))) ∧ (bs (leN 4 a)).size + (bs (leN 8 r)).size ≤ 9223372036854775807 ∧ Value.string (bs (leN 4 a) ++ bs (leN 8 r)) = .string (bs (nonN a r)) ∧ Kt [(10, .string (bs (nonN a r))), (4, .pointer (some ⟨bo, 0, none⟩))] [(bo, .cells (cn .u8 (List.replicate 12 0)) 41)]) (by kernel_rfl) (fun _ => by kernel_rfl) (⟨(by have := ha; omega), (callP_of en_lowest (lowest_any a 4 (by have := ha; omega) (by decide)) _), (callP_of en_round (round_any r (by have := hr; omega)) _), (by simp only [bs_size, leN_len]; decide), (vS2 (bs_app _ _)), fun ac2 wd2 FF2 MM2 => ?_⟩)
  refine st_new [4, 11] FF2 MM2 (d := 11) (bytes_ok (e := 5) (x := (.tmp 10)) (by kernel_rfl) rfl (nonN_lt _ _) Tryd.underlying9 Tryd.underlying49 Tryd.underlying5) rfl rfl (by decide) fun ac4 wd4 b1 cz3 (FF4 : Fr 14 ac4 [(11, .slice (some ⟨b1, 0, none⟩) ((nonN a r).length) ((nonN a r).length + cz3)), (4, .pointer (some ⟨bo, 0, none⟩))]) (MM4 : MemS (fun k => k < w0.heap.size) w0 wd4 [(b1, .cells (cn .u8 ((nonN a r) ++ List.replicate cz3 0)) 5 ((nonN a r).length + cz3, (nonN a r).length + cz3 + 1)), (bo, .cells (cn .u8 (List.replicate 12 0)) 41)] []) => ?_
  refine rg_part 3 FF4 MM4 [o_, l_ 0 (.agg (cn .u8 (nonN a r))), b_ 1] [4] (fun Kt => 12 ≤ (nonN a r).length ∧ b1 = b1 ∧ PartAt (cn .u8 ((nonN a r) ++ List.replicate cz3 0)) 0 (cn .u8 (nonN a r)) ∧ (cn .u8 (nonN a r)).size = 12 ∧ bo = bo ∧ (cn .u8 (List.replicate 12 0)).size = 12 ∧ (cn .u8 (nonN a r)).size = 12 ∧ (cn .u8 (nonN a r)).all (·.oneCell') = true ∧ (0, 0).2 = 0 ∧ Kt [(4, .pointer (some ⟨bo, 0, none⟩))] [(b1, .cells (cn .u8 ((nonN a r) ++ List.replicate cz3 0)) 5 ((nonN a r).length + cz3, (nonN a r).length + cz3 + 1)), (bo, .cells (cn .u8 (nonN a r)) 41)]) (by kernel_rfl) (fun _ => by kernel_rfl) (⟨(by rw [nonN_len]; decide), rfl, (part_rep _ _), ((cn_size _ _).trans (nonN_len _ _)), rfl, ((cn_size _ _).trans (List.length_replicate ..)), ((cn_size _ _).trans (nonN_len _ _)), (cn_one _ _), rfl, fun ac5 wd5 FF5 MM5 => ?_⟩)
  refine wpl_nil (then_n ?_)
  refine wp_ret ?_
  repeat first | refine then_ret ?_ | refine inb_ret ?_
  exact (retc FF5 MM5 (k := 12) (i := 1) (j := 0) Tryd.results17 rfl rfl Tryd.underlying41 rfl (by kernel_rfl) ((cn_size _ _).trans (nonN_len _ _)) ⟨rfl, MM5.below⟩)

end Go.Proofs.YtkpindnekaijfaaDoor
