/- ShaTells: the walk. -/
import Derived.Test.YthjbbbjdpoggiaaDoorS5
import Derived.Test.YthjbbbjdpoggiaaDoorK0
namespace Go.Proofs.YthjbbbjdpoggiaaDoor
open Go.RowKit

set_option maxRecDepth 100000 in
theorem shatells_long (Tg : TypeId) (fg : Nat × Nat) (Ps : List (List Nat)) (_hP : ∀ X ∈ Ps, ∀ i, X.getD i 0 < 256) (hn : Ps.length < 9223372036854775808) (pb off cap T9 : Nat) (fr : Nat × Nat) (cs : Array Value) (hp : ∀ j, j < Ps.length → cs[off + j]? = some (.string (bs (Ps.getD j [])))) (hD : Distinct [(0, Obj.cells (cn .u32 kTab) Tg fg), (pb, .cells cs T9 fr)]) (hL : Ps.flatten.length > 500) (w0 : World) (H : Has w0 [(0, Obj.cells (cn .u32 kTab) Tg fg), (pb, .cells cs T9 fr)]) :
    Calls Tryd.prog 3 #[.slice (some ⟨pb, off, none⟩) Ps.length cap] w0 fun e w' => e = .returned (.bool true) ∧ Below w0.heap.size w0 w' := by
  have MM := MemS.startN H hD
  refine enter_fr Tryd.func3 rfl Tryd.ntmps3 (by simp) fun ac (FF : Fr 37 ac [(0, .slice (some ⟨pb, off, none⟩) Ps.length cap)]) => ?_
  refine wp_seq (rg_seq FF MM [o_] [0, 2] (fun Kt => Kt [(2, .bool false), (0, .slice (some ⟨pb, off, none⟩) Ps.length cap)] [(0, .cells (cn .u32 kTab) Tg fg), (pb, .cells cs T9 fr)]) (by kernel_rfl) (fun _ => by kernel_rfl) (fun ac1 wd1 FF1 MM1 => then_n ?_))
  refine wp_seq ?_
  refine wp_seq (rg_seq FF1 MM1 [o_, u_ 1 (.bool true)] [2, 0, 7] (fun Kt => CallP Tryd.prog 6 [.slice (some ⟨pb, off, none⟩) Ps.length cap, .int .i64 (500 : Nat)] [(0, .cells (cn .u32 kTab) Tg fg), (pb, .cells cs T9 fr)] (.bool true) ∧ Kt [(7, .bool true), (2, .bool false), (0, .slice (some ⟨pb, off, none⟩) Ps.length cap)] [(0, .cells (cn .u32 kTab) Tg fg), (pb, .cells cs T9 fr)]) (by kernel_rfl) (fun _ => by kernel_rfl) (⟨⟨en_Long, fun w Hw => by have h0 := longm Ps 500 (by decide) hn pb off cap T9 fr cs hp w (Hw 1 _ rfl); rw [decide_eq_true hL] at h0; exact h0⟩, fun ac2 wd2 FF2 MM2 => then_n ?_⟩))
  refine wp_cond_true (FF2.ev 0 rfl) ?_
  refine wp_seq (rg_seq FF2 MM2 [u_ 1 (.bool true), o_] [2, 0] (fun Kt => CallP Tryd.prog 7 [] [(0, .cells (cn .u32 kTab) Tg fg), (pb, .cells cs T9 fr)] (.bool true) ∧ Kt [(2, .bool true), (0, .slice (some ⟨pb, off, none⟩) Ps.length cap)] [(0, .cells (cn .u32 kTab) Tg fg), (pb, .cells cs T9 fr)]) (by kernel_rfl) (fun _ => by kernel_rfl) (⟨⟨en_wakes6, fun w Hw => wakes6 Tg fg w (Hw 0 _ rfl)⟩, fun ac3 wd3 FF3 MM3 => then_n ?_⟩))
  refine wp_ret ?_
  repeat first | refine then_ret ?_ | refine inb_ret ?_
  exact (ret_fr FF3 0 Tryd.results3 rfl ⟨rfl, MM3.belowN H (fun x hx => hx)⟩)
set_option maxRecDepth 100000 in
theorem shatells_short (Tg : TypeId) (fg : Nat × Nat) (Ps : List (List Nat)) (hP : ∀ X ∈ Ps, ∀ i, X.getD i 0 < 256) (hn : Ps.length < 9223372036854775808) (pb off cap T9 : Nat) (fr : Nat × Nat) (cs : Array Value) (hp : ∀ j, j < Ps.length → cs[off + j]? = some (.string (bs (Ps.getD j [])))) (hD : Distinct [(0, Obj.cells (cn .u32 kTab) Tg fg), (pb, .cells cs T9 fr)]) (hne : 0 < Ps.length) (hby : Ps.length * 16 ≤ 140737488355328) (hL : ¬ Ps.flatten.length > 500) (w0 : World) (H : Has w0 [(0, Obj.cells (cn .u32 kTab) Tg fg), (pb, .cells cs T9 fr)]) :
    Calls Tryd.prog 3 #[.slice (some ⟨pb, off, none⟩) Ps.length cap] w0 fun e w' => e = .returned (.bool true) ∧ Below w0.heap.size w0 w' := by
  have MM := MemS.startN H hD
  refine enter_fr Tryd.func3 rfl Tryd.ntmps3 (by simp) fun ac (FF : Fr 37 ac [(0, .slice (some ⟨pb, off, none⟩) Ps.length cap)]) => ?_
  refine wp_seq (rg_seq FF MM [o_] [0, 2] (fun Kt => Kt [(2, .bool false), (0, .slice (some ⟨pb, off, none⟩) Ps.length cap)] [(0, .cells (cn .u32 kTab) Tg fg), (pb, .cells cs T9 fr)]) (by kernel_rfl) (fun _ => by kernel_rfl) (fun ac1 wd1 FF1 MM1 => then_n ?_))
  refine wp_seq ?_
  refine wp_seq (rg_seq FF1 MM1 [o_, u_ 1 (.bool false)] [2, 0, 7] (fun Kt => CallP Tryd.prog 6 [.slice (some ⟨pb, off, none⟩) Ps.length cap, .int .i64 (500 : Nat)] [(0, .cells (cn .u32 kTab) Tg fg), (pb, .cells cs T9 fr)] (.bool false) ∧ Kt [(7, .bool false), (2, .bool false), (0, .slice (some ⟨pb, off, none⟩) Ps.length cap)] [(0, .cells (cn .u32 kTab) Tg fg), (pb, .cells cs T9 fr)]) (by kernel_rfl) (fun _ => by kernel_rfl) (⟨⟨en_Long, fun w Hw => by have h0 := longm Ps 500 (by decide) hn pb off cap T9 fr cs hp w (Hw 1 _ rfl); rw [decide_eq_false hL] at h0; exact h0⟩, fun ac2 wd2 FF2 MM2 => then_n ?_⟩))
  refine wp_cond_false (FF2.ev 0 rfl) ?_
  refine wp_skip ?_
  refine then_n ?_
  refine wp_seq (rg_seq FF2 MM2 [o_] [2, 0, 3] (fun Kt => Kt [(3, .string (bs [])), (2, .bool false), (0, .slice (some ⟨pb, off, none⟩) Ps.length cap)] [(0, .cells (cn .u32 kTab) Tg fg), (pb, .cells cs T9 fr)]) (by kernel_rfl) (fun _ => by kernel_rfl) (fun ac3 wd3 FF3 MM3 => then_n ?_))
  refine wp_seq ?_
  refine wp_seq (rg_seq FF3 MM3 [o_] [3, 2, 0, 4] (fun Kt => Kt [(4, .int .i64 (0 : Nat)), (3, .string (bs [])), (2, .bool false), (0, .slice (some ⟨pb, off, none⟩) Ps.length cap)] [(0, .cells (cn .u32 kTab) Tg fg), (pb, .cells cs T9 fr)]) (by kernel_rfl) (fun _ => by kernel_rfl) (fun ac4 wd4 FF4 MM4 => then_n ?_))
  refine wp_for2 (fun a' w' => ∃ i : Nat, i ≤ Ps.length ∧ Fr 37 a' [(4, .int .i64 (i : Nat)), (3, .string (bs ((Ps.take i).flatten))), (2, .bool false), (0, .slice (some ⟨pb, off, none⟩) Ps.length cap)] ∧ MemS (fun k => k < w0.heap.size ∧ ∀ x ∈ [(0, Obj.cells (cn .u32 kTab) Tg fg), (pb, .cells cs T9 fr)], x.1 ≠ k) w0 w' [(0, .cells (cn .u32 kTab) Tg fg), (pb, .cells cs T9 fr)] []) (fun a' _ => (Ps.length - cnt 4 a').toNat) ⟨0, by omega, FF4.pick [0, 1, 2, 3], MM4⟩ ?_
  rintro ac5 wd5 ⟨i, hi, FF5, MM5⟩
  have hc := cnt_of (FF5.get 0 rfl)
  refine rg_seq FF5 MM5 [o_, o_, o_, o_] [4, 3, 2, 0, 12] (fun Kt => Kt [(12, .bool (decide (i < Ps.length))), (4, .int .i64 (i : Nat)), (3, .string (bs ((Ps.take i).flatten))), (2, .bool false), (0, .slice (some ⟨pb, off, none⟩) Ps.length cap)] [(0, .cells (cn .u32 kTab) Tg fg), (pb, .cells cs T9 fr)]) (by kernel_rfl) (fun _ => by kernel_rfl) (fun ac6 wd6 FF6 MM6 => ?_)
  by_cases hlt : i < Ps.length
  · skip
    refine then_n (.inl ⟨(FF6.ev 0 rfl).trans (dec_t hlt), ?_⟩)
    have hft := congrArg List.length (flat_take Ps i hlt)
    rw [List.length_append] at hft
    have hfl := flat_le Ps (i + 1)
    refine rg_seq FF6 MM6 [o_, o_, o_, o_, l_ 1 (.string (bs (Ps.getD i []))), t_ (.string (bs ((Ps.take (i + 1)).flatten))), o_] [4, 3, 2, 0] (fun Kt => i < Ps.length ∧ pb = pb ∧ cs[off + i]? = some (.string (bs (Ps.getD i []))) ∧ (bs ((Ps.take i).flatten)).size + (bs (Ps.getD i [])).size ≤ 9223372036854775807 ∧ Value.string (bs ((Ps.take i).flatten) ++ bs (Ps.getD i [])) = .string (bs ((Ps.take (i + 1)).flatten)) ∧ Kt [(3, .string (bs ((Ps.take (i + 1)).flatten))), (4, .int .i64 (i : Nat)), (2, .bool false), (0, .slice (some ⟨pb, off, none⟩) Ps.length cap)] [(0, .cells (cn .u32 kTab) Tg fg), (pb, .cells cs T9 fr)]) (by kernel_rfl) (fun _ => by kernel_rfl) (⟨(by omega), rfl, (hp i hlt), (by simp only [bs_size]; omega), (vS2 ((bs_app _ _).trans (congrArg bs (flat_take Ps i hlt).symm))), fun ac7 wd7 FF7 MM7 => ?_⟩)
    refine inb_n (then_n ?_)
    refine rg_seq FF7 MM7 [o_, o_, o_] [3, 4, 2, 0] (fun Kt => i + 1 < 9223372036854775808 ∧ Kt [(4, .int .i64 (i + 1 : Nat)), (3, .string (bs ((Ps.take (i + 1)).flatten))), (2, .bool false), (0, .slice (some ⟨pb, off, none⟩) Ps.length cap)] [(0, .cells (cn .u32 kTab) Tg fg), (pb, .cells cs T9 fr)]) (by kernel_rfl) (fun _ => by kernel_rfl) (⟨(by omega), fun ac8 wd8 FF8 MM8 => ?_⟩)
    have hd := cnt_of (FF8.get 0 rfl)
    refine then_n ⟨⟨i + 1, by omega, FF8.pick [0, 1, 2, 3], MM8⟩, ?_⟩
    rw [hc, hd]; omega
  · skip
    refine then_n (.inr ⟨(FF6.ev 0 rfl).trans (dec_f hlt), ?_⟩)
    obtain rfl : i = Ps.length := by omega
    rw [List.take_length] at FF6
    refine then_n ?_
    refine wp_seq (wp_region_list ?_)
    refine rg_part 2 FF6 MM6 [o_, o_] [4, 3, 2, 0, 21, 22] (fun Kt => ∀ bq, Kt [(22, .slice (some ⟨pb, off, none⟩) Ps.length cap), (21, .slice (some ⟨bq, 0, none⟩) 0 0), (4, .int .i64 (Ps.length : Nat)), (3, .string (bs Ps.flatten)), (2, .bool false), (0, .slice (some ⟨pb, off, none⟩) Ps.length cap)] [(bq, .cells (#[] : Array Value) 9), (0, .cells (cn .u32 kTab) Tg fg), (pb, .cells cs T9 fr)]) (by kernel_rfl) (fun _ => by kernel_rfl) (fun bq => fun ac9 wd9 FF9 MM9 => ?_)
    have hbq : w0.heap.size ≤ bq := Nat.le_of_not_lt fun h => MM9.base 0 _ rfl ⟨h, fun x hx => (by rcases List.mem_cons.1 hx with rfl | hx; exact MM9.apart 1 0 _ _ rfl rfl (by decide); obtain rfl := List.mem_singleton.1 hx; exact MM9.apart 2 0 _ _ rfl rfl (by decide))⟩
    have MMq := MM9.rowOf (m := 0) (k := 1) hbq (by decide) rfl
    refine st_app [4, 3, 2, 0, 23] FF9 MMq (d := 23) (s := 21) (x := 22) (Y := (strV Ps)) (z := .string (bs [])) (bb := 16) rfl rfl rfl (strV_len Ps) (parts_at Ps hp (MMq.get 1 rfl)) (strV_one Ps) hne Tryd.underlying22 (by kernel_rfl) rfl (by decide) (by simp only [maxLen]; omega) (by omega) rfl rfl (by decide) fun ac11 wd11 rv10 (FF11 : Fr 37 ac11 [(23, rv10), (4, .int .i64 (Ps.length : Nat)), (3, .string (bs Ps.flatten)), (2, .bool false), (0, .slice (some ⟨pb, off, none⟩) Ps.length cap)]) (MM11 : MemS (fun k => k < w0.heap.size ∧ ∀ x ∈ [(0, Obj.cells (cn .u32 kTab) Tg fg), (pb, .cells cs T9 fr)], x.1 ≠ k) w0 wd11 [(0, .cells (cn .u32 kTab) Tg fg), (pb, .cells cs T9 fr)] [(rv10, 9, 1, (0 + Ps.length), ([] ++ (strV Ps)))]) => ?_
    rcases MM11.rowForm with ⟨_, hz⟩ | ⟨g, gcap, rfl⟩
    · exact absurd hz (by omega)
    obtain ⟨cur, MMf, hg1, hg2, hg3, hg4, hg5, hg6⟩ := MM11.freeze
    rw [Nat.zero_add] at hg5
    rw [Nat.zero_add] at FF11
    have hq := own_cells hg5
    refine rg_part 1 FF11 MMf [o_] [4, 3, 2, 0, 5] (fun Kt => Kt [(5, .slice (some ⟨g, 0, none⟩) Ps.length gcap), (4, .int .i64 (Ps.length : Nat)), (3, .string (bs Ps.flatten)), (2, .bool false), (0, .slice (some ⟨pb, off, none⟩) Ps.length cap)] [(g, .cells cur 9), (0, .cells (cn .u32 kTab) Tg fg), (pb, .cells cs T9 fr)]) (by kernel_rfl) (fun _ => by kernel_rfl) (fun ac12 wd12 FF12 MM12 => ?_)
    refine wpl_nil (then_n ?_)
    have hT : ∀ i, Ps.flatten.getD i 0 < 256 := flat_lt hP
    have hDg : Distinct [(g, .cells cur 9), (pb, .cells cs T9 fr)] := ⟨fun y hy => (by obtain rfl := List.mem_singleton.1 hy; exact MM12.apart 2 0 _ _ rfl rfl (by decide)), fun y hy => (nomatch hy), trivial⟩
    refine wp_seq (rg_seq FF12 MM12 [o_, u_ 1 (.agg (cn .u8 (shaN Ps.flatten))), o_, t_ (.agg (cn .u8 (shaN Ps.flatten))), f_ (.bool true), o_, o_, o_, u_ 1 (.bool true), o_, o_, u_ 1 (.bool true), o_, o_] [4, 3, 2, 0] (fun Kt => CallP Tryd.prog 8 [.slice (some ⟨g, 0, none⟩) Ps.length gcap] [(g, .cells cur 9), (0, .cells (cn .u32 kTab) Tg fg), (pb, .cells cs T9 fr)] (.agg (cn .u8 (shaN Ps.flatten))) ∧ CallP Tryd.prog 9 [.string (bs Ps.flatten)] [] (.agg (cn .u8 (shaN Ps.flatten))) ∧ RunV Tryd.prog [(27, .agg (cn .u8 (shaN Ps.flatten))), (26, .string (bs Ps.flatten)), (25, .agg (cn .u8 (shaN Ps.flatten))), (24, .slice (some ⟨g, 0, none⟩) Ps.length gcap), (5, .slice (some ⟨g, 0, none⟩) Ps.length gcap), (4, .int .i64 (Ps.length : Nat)), (3, .string (bs Ps.flatten)), (2, .bool false), (0, .slice (some ⟨pb, off, none⟩) Ps.length cap)] [(g, .cells cur 9), (0, .cells (cn .u32 kTab) Tg fg), (pb, .cells cs T9 fr)] (opAt Tryd.f3 9 4) (.bool true) ∧ CallP Tryd.prog 10 [.slice (some ⟨g, 0, none⟩) Ps.length gcap, .slice (some ⟨pb, off, none⟩) Ps.length cap] [(g, .cells cur 9), (0, .cells (cn .u32 kTab) Tg fg), (pb, .cells cs T9 fr)] (.bool true) ∧ CallP Tryd.prog 7 [] [(g, .cells cur 9), (0, .cells (cn .u32 kTab) Tg fg), (pb, .cells cs T9 fr)] (.bool true) ∧ Kt [(2, .bool true), (4, .int .i64 (Ps.length : Nat)), (3, .string (bs Ps.flatten)), (0, .slice (some ⟨pb, off, none⟩) Ps.length cap)] [(g, .cells cur 9), (0, .cells (cn .u32 kTab) Tg fg), (pb, .cells cs T9 fr)]) (by kernel_rfl) (fun _ => by kernel_rfl) (⟨⟨en_ssum, fun w Hw => ssum_any Tg fg Ps hP hn g 0 gcap 9 (0, 0) cur (fun j h => by rw [Nat.zero_add]; exact hq j h) (by omega) w (Hw 1 _ rfl) (Hw 0 _ rfl)⟩, (callP_of en_rsum (rsum_any Ps.flatten hT (by omega)) _), (eqA_ok (t := 26) (t' := 26) (e := 5) (m := 32) (k := .u8) (x := (.tmp 25)) (y := (.tmp 27)) (by kernel_rfl) Tryd.underlying26 Tryd.underlying5 (by kernel_rfl) (by kernel_rfl) (by kernel_rfl) rfl rfl (shaN_bytes _).len (shaN_bytes _).len (decide_eq_true rfl)), ⟨en_Texts, fun w Hw => texts_any Ps hn pb off cap T9 fr cs hp g gcap cur hq hDg w (fun i x hx => by match i, hx with | 0, hx => exact (by cases hx; exact Hw 0 _ rfl) | 1, hx => exact (by cases hx; exact Hw 2 _ rfl) | i + 2, hx => exact (by simp at hx))⟩, ⟨en_wakes6, fun w Hw => wakes6 Tg fg w (Hw 1 _ rfl)⟩, fun ac13 wd13 FF13 MM13 => then_n ?_⟩))
    refine wp_ret ?_
    repeat first | refine then_ret ?_ | refine inb_ret ?_
    exact (ret_fr FF13 0 Tryd.results3 rfl ⟨rfl, MM13.belowN H (fun x hx => List.mem_cons_of_mem _ (hx))⟩)
set_option maxRecDepth 100000 in
theorem shatells_empty (Tg : TypeId) (fg : Nat × Nat) (p : Option Addr) (cap : Nat) (w0 : World) (hg : w0.heap[0]? = some (.cells (cn .u32 kTab) Tg fg)) :
    Calls Tryd.prog 3 #[.slice p 0 cap] w0 fun e w' => e = .returned (.bool true) ∧ Below w0.heap.size w0 w' := by
  have MM := MemS.start1 hg
  refine enter_fr Tryd.func3 rfl Tryd.ntmps3 (by simp) fun ac (FF : Fr 37 ac [(0, .slice p 0 cap)]) => ?_
  refine wp_seq (rg_seq FF MM [o_] [0, 2] (fun Kt => Kt [(2, .bool false), (0, .slice p 0 cap)] [(0, .cells (cn .u32 kTab) Tg fg)]) (by kernel_rfl) (fun _ => by kernel_rfl) (fun ac1 wd1 FF1 MM1 => then_n ?_))
  refine wp_seq ?_
  refine wp_seq (rg_seq FF1 MM1 [o_, t_ (.bool false)] [2, 0, 7] (fun Kt => CallP Tryd.prog 6 [.slice p 0 cap, .int .i64 (500 : Nat)] [] (.bool false) ∧ Kt [(7, .bool false), (2, .bool false), (0, .slice p 0 cap)] [(0, .cells (cn .u32 kTab) Tg fg)]) (by kernel_rfl) (fun _ => by kernel_rfl) (⟨(callP_of en_Long (long_empty 500 p cap) _), fun ac2 wd2 FF2 MM2 => then_n ?_⟩))
  refine wp_cond_false (FF2.ev 0 rfl) ?_
  refine wp_skip ?_
  refine then_n ?_
  refine wp_seq (rg_seq FF2 MM2 [o_] [2, 0, 3] (fun Kt => Kt [(3, .string (bs [])), (2, .bool false), (0, .slice p 0 cap)] [(0, .cells (cn .u32 kTab) Tg fg)]) (by kernel_rfl) (fun _ => by kernel_rfl) (fun ac3 wd3 FF3 MM3 => then_n ?_))
  refine wp_seq ?_
  refine wp_seq (rg_seq FF3 MM3 [o_] [3, 2, 0, 4] (fun Kt => Kt [(4, .int .i64 (0 : Nat)), (3, .string (bs [])), (2, .bool false), (0, .slice p 0 cap)] [(0, .cells (cn .u32 kTab) Tg fg)]) (by kernel_rfl) (fun _ => by kernel_rfl) (fun ac4 wd4 FF4 MM4 => then_n ?_))
  refine wp_for2 (fun a' w' => Fr 37 a' [(4, .int .i64 (0 : Nat)), (3, .string (bs [])), (2, .bool false), (0, .slice p 0 cap)] ∧ MemS (fun k => k < w0.heap.size ∧ k ≠ 0) w0 w' [(0, .cells (cn .u32 kTab) Tg fg)] []) (fun a' _ => 0) ⟨FF4.pick [0, 1, 2, 3], MM4⟩ ?_
  rintro ac5 wd5 ⟨FF5, MM5⟩
  refine rg_seq FF5 MM5 [o_, o_, o_, w_ 3] [4, 3, 2, 0, 12] (fun Kt => ¬ (0 < 0) ∧ Kt [(12, .bool false), (4, .int .i64 (0 : Nat)), (3, .string (bs [])), (2, .bool false), (0, .slice p 0 cap)] [(0, .cells (cn .u32 kTab) Tg fg)]) (by kernel_rfl) (fun _ => by kernel_rfl) (⟨(by decide), fun ac6 wd6 FF6 MM6 => ?_⟩)
  refine then_n (.inr ⟨FF6.ev 0 rfl, ?_⟩)
  refine then_n ?_
  refine wp_seq (wp_region_list ?_)
  refine rg_part 1 FF6 MM6 [o_] [4, 3, 2, 0, 21] (fun Kt => ∀ bq, Kt [(21, .slice (some ⟨bq, 0, none⟩) 0 0), (4, .int .i64 (0 : Nat)), (3, .string (bs [])), (2, .bool false), (0, .slice p 0 cap)] [(bq, .cells (#[] : Array Value) 9), (0, .cells (cn .u32 kTab) Tg fg)]) (by kernel_rfl) (fun _ => by kernel_rfl) (fun bq => fun ac7 wd7 FF7 MM7 => ?_)
  refine rg_part 3 FF7 MM7 [o_, f_ (.slice (some ⟨bq, 0, none⟩) 0 0), o_] [4, 3, 2, 0, 5] (fun Kt => RunV Tryd.prog [(22, .slice p 0 cap), (21, .slice (some ⟨bq, 0, none⟩) 0 0), (4, .int .i64 (0 : Nat)), (3, .string (bs [])), (2, .bool false), (0, .slice p 0 cap)] [(bq, .cells (#[] : Array Value) 9), (0, .cells (cn .u32 kTab) Tg fg)] (opAt Tryd.f3 8 2) (.slice (some ⟨bq, 0, none⟩) 0 0) ∧ Kt [(5, .slice (some ⟨bq, 0, none⟩) 0 0), (4, .int .i64 (0 : Nat)), (3, .string (bs [])), (2, .bool false), (0, .slice p 0 cap)] [(bq, .cells (#[] : Array Value) 9), (0, .cells (cn .u32 kTab) Tg fg)]) (by kernel_rfl) (fun _ => by kernel_rfl) (⟨(app0_ok (s := .tmp 21) (x := .tmp 22) (t := 22) (e := 9) (by kernel_rfl) rfl rfl Tryd.underlying22 (by kernel_rfl) (Nat.le_refl _)), fun ac8 wd8 FF8 MM8 => ?_⟩)
  refine wpl_nil (then_n ?_)
  refine wp_seq (rg_seq FF8 MM8 [o_, u_ 1 (.agg (cn .u8 (shaN []))), o_, t_ (.agg (cn .u8 (shaN []))), f_ (.bool true), o_, o_, o_, t_ (.bool true), o_, o_, u_ 1 (.bool true), o_, o_] [4, 3, 2, 0] (fun Kt => CallP Tryd.prog 8 [.slice (some ⟨bq, 0, none⟩) 0 0] [(bq, .cells (#[] : Array Value) 9), (0, .cells (cn .u32 kTab) Tg fg)] (.agg (cn .u8 (shaN []))) ∧ CallP Tryd.prog 9 [.string (bs [])] [] (.agg (cn .u8 (shaN []))) ∧ RunV Tryd.prog [(27, .agg (cn .u8 (shaN []))), (26, .string (bs [])), (25, .agg (cn .u8 (shaN []))), (24, .slice (some ⟨bq, 0, none⟩) 0 0), (5, .slice (some ⟨bq, 0, none⟩) 0 0), (4, .int .i64 (0 : Nat)), (3, .string (bs [])), (2, .bool false), (0, .slice p 0 cap)] [(bq, .cells (#[] : Array Value) 9), (0, .cells (cn .u32 kTab) Tg fg)] (opAt Tryd.f3 9 4) (.bool true) ∧ CallP Tryd.prog 10 [.slice (some ⟨bq, 0, none⟩) 0 0, .slice p 0 cap] [] (.bool true) ∧ CallP Tryd.prog 7 [] [(bq, .cells (#[] : Array Value) 9), (0, .cells (cn .u32 kTab) Tg fg)] (.bool true) ∧ Kt [(2, .bool true), (4, .int .i64 (0 : Nat)), (3, .string (bs [])), (0, .slice p 0 cap)] [(bq, .cells (#[] : Array Value) 9), (0, .cells (cn .u32 kTab) Tg fg)]) (by kernel_rfl) (fun _ => by kernel_rfl) (⟨⟨en_ssum, fun w Hw => ssum_empty Tg fg _ _ w (Hw 1 _ rfl)⟩, (callP_of en_rsum (rsum_any [] nil_lt (by decide)) _), (eqA_ok (t := 26) (t' := 26) (e := 5) (m := 32) (k := .u8) (x := (.tmp 25)) (y := (.tmp 27)) (by kernel_rfl) Tryd.underlying26 Tryd.underlying5 (by kernel_rfl) (by kernel_rfl) (by kernel_rfl) rfl rfl (shaN_bytes _).len (shaN_bytes _).len (decide_eq_true rfl)), (callP_of en_Texts (texts_empty (some ⟨bq, 0, none⟩) p cap 0) _), ⟨en_wakes6, fun w Hw => wakes6 Tg fg w (Hw 1 _ rfl)⟩, fun ac9 wd9 FF9 MM9 => then_n ?_⟩))
  refine wp_ret ?_
  repeat first | refine then_ret ?_ | refine inb_ret ?_
  exact (ret_fr FF9 0 Tryd.results3 rfl ⟨rfl, MM9.below1 1 rfl hg⟩)

end Go.Proofs.YthjbbbjdpoggiaaDoor
