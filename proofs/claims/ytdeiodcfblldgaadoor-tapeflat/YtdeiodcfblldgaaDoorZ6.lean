/- Several texts in one: strings.Builder: WriteString, String. Package nat: the digits of a row. Package nat: a number as a text. A region that draws its order, where reckonings may come behind a store: they are taken first; two reads come up in either order; then the rest in its row. A region that draws its order, gone through by what may come up: one operation at a time, by the laws for a row of one. What is taken from a tape, what is drawn. No program in this text. -/
import Derived.Test.YtdeiodcfblldgaaDoorZ5
import Derived.Test.YtdeiodcfblldgaaDoorZ3
namespace Go.Proofs.YtdeiodcfblldgaaDoor
open Go.RowKit

theorem en_copychk : Enters Tryd.prog 51 := fun args w => by simp [go_sem]
theorem en_bwrite : Enters Tryd.prog 44 := fun args w => by simp [go_sem]
theorem en_bstring : Enters Tryd.prog 47 := fun args w => by simp [go_sem]
set_option maxRecDepth 100000 in
theorem copychk_fresh (rv : Value) (b j : Nat) (L : Blks) (hj : L[j]? = some (b, .cells #[.pointer none, rv] 85)) (w0 : World) (H : Has w0 L) :
    Calls Tryd.prog 51 #[.pointer (some ⟨b, 0, none⟩)] w0 fun e w' => e = .returned (.tuple #[]) ∧ Post w0 w' L ⟨fun _ => .tuple #[], none, [(j, .cells #[.pointer (some ⟨b, 0, none⟩), rv] 85)]⟩ 0 := by
  have MM := MemS.start1 (H j _ hj)
  refine enter_fr Tryd.func51 rfl Tryd.ntmps51 (by simp) fun ac (FF : Fr 20 ac [(0, .pointer (some ⟨b, 0, none⟩))]) => ?_
  refine wp_seq (rg_seq FF MM [o_, o_, o_, l_ 0 (.pointer none), f_ (.bool true)] [0, 6] (fun Kt => b = b ∧ (#[.pointer none, rv] : Array Value)[0]? = some (.pointer none) ∧ RunV Tryd.prog [(5, .pointer none), (4, .pointer (some ⟨b, 0, none⟩)), (3, .pointer (some ⟨b, 0, none⟩)), (2, .pointer (some ⟨b, 0, none⟩)), (0, .pointer (some ⟨b, 0, none⟩))] [(b, .cells (#[.pointer none, rv] : Array Value) 85)] (opAt Tryd.f51 0 4) (.bool true) ∧ Kt [(6, .bool true), (0, .pointer (some ⟨b, 0, none⟩))] [(b, .cells (#[.pointer none, rv] : Array Value) 85)]) (by kernel_rfl) (fun _ => by kernel_rfl) (⟨rfl, rfl, (ptrNil_ok (t := 83) (t' := 83) (x := .tmp 5) (y := (.const (.pointer none))) (by kernel_rfl) rfl rfl Tryd.underlying83), fun ac1 wd1 FF1 MM1 => then_n ?_⟩))
  refine wp_cond_true (FF1.ev 0 rfl) ?_
  refine rg_seq FF1 MM1 [o_, o_, f_ (.pointer (some ⟨b, 0, none⟩)), f_ (.pointer (some ⟨b, 0, none⟩)), f_ (.pointer (some ⟨b, 0, none⟩)), o_, o_, s_ 0 (.cells (#[.pointer (some ⟨b, 0, none⟩), rv] : Array Value) 85)] [0] (fun Kt => RunV Tryd.prog [(8, .pointer (some ⟨b, 0, none⟩)), (7, .pointer (some ⟨b, 0, none⟩)), (6, .bool true), (0, .pointer (some ⟨b, 0, none⟩))] [(b, .cells (#[.pointer none, rv] : Array Value) 85)] (opAt Tryd.f51 1 2) (.pointer (some ⟨b, 0, none⟩)) ∧ RunV Tryd.prog [(9, .pointer (some ⟨b, 0, none⟩)), (8, .pointer (some ⟨b, 0, none⟩)), (7, .pointer (some ⟨b, 0, none⟩)), (6, .bool true), (0, .pointer (some ⟨b, 0, none⟩))] [(b, .cells (#[.pointer none, rv] : Array Value) 85)] (opAt Tryd.f51 1 3) (.pointer (some ⟨b, 0, none⟩)) ∧ RunV Tryd.prog [(10, .pointer (some ⟨b, 0, none⟩)), (9, .pointer (some ⟨b, 0, none⟩)), (8, .pointer (some ⟨b, 0, none⟩)), (7, .pointer (some ⟨b, 0, none⟩)), (6, .bool true), (0, .pointer (some ⟨b, 0, none⟩))] [(b, .cells (#[.pointer none, rv] : Array Value) 85)] (opAt Tryd.f51 1 4) (.pointer (some ⟨b, 0, none⟩)) ∧ b = b ∧ 0 < (#[.pointer none, rv] : Array Value).size ∧ (((0, 0)).2 = 0 ∨ 0 < ((0, 0)).1) ∧ (#[.pointer none, rv] : Array Value).setIfInBounds 0 (.pointer (some ⟨b, 0, none⟩)) = #[.pointer (some ⟨b, 0, none⟩), rv] ∧ Kt [(0, .pointer (some ⟨b, 0, none⟩))] [(b, .cells (#[.pointer (some ⟨b, 0, none⟩), rv] : Array Value) 85)]) (by kernel_rfl) (fun _ => by kernel_rfl) (⟨(toUnsafe_ok (x := .tmp 8) (i := 0) (by kernel_rfl) rfl Tryd.underlying83 Tryd.underlying100 (by kernel_rfl) rfl (Nat.zero_lt_succ 1)), (noEsc_ok (f := 58) (ts := #[100]) (x := .tmp 9) (by kernel_rfl) rfl Tryd.func58 (by kernel_rfl) (by kernel_rfl) (by kernel_rfl) (by kernel_rfl)), (fromUnsafe_ok (x := .tmp 10) (i := 0) (by kernel_rfl) rfl Tryd.underlying100 Tryd.underlying83 (by kernel_rfl) rfl (by kernel_rfl)), rfl, (by simp), (.inl rfl), rfl, fun ac2 wd2 FF2 MM2 => ?_⟩)
  exact (end_none FF2 Tryd.results51 ⟨rfl, MM2.post1 0 rfl hj⟩)
set_option maxRecDepth 100000 in
theorem copychk_used (rv : Value) (b j : Nat) (L : Blks) (hj : L[j]? = some (b, .cells #[.pointer (some ⟨b, 0, none⟩), rv] 85)) (w0 : World) (H : Has w0 L) :
    Calls Tryd.prog 51 #[.pointer (some ⟨b, 0, none⟩)] w0 fun e w' => e = .returned (.tuple #[]) ∧ Post w0 w' L ⟨fun _ => .tuple #[], none, [(j, .cells #[.pointer (some ⟨b, 0, none⟩), rv] 85)]⟩ 0 := by
  have MM := MemS.start1 (H j _ hj)
  refine enter_fr Tryd.func51 rfl Tryd.ntmps51 (by simp) fun ac (FF : Fr 20 ac [(0, .pointer (some ⟨b, 0, none⟩))]) => ?_
  refine wp_seq (rg_seq FF MM [o_, o_, o_, l_ 0 (.pointer (some ⟨b, 0, none⟩)), f_ (.bool false)] [0, 6] (fun Kt => b = b ∧ (#[.pointer (some ⟨b, 0, none⟩), rv] : Array Value)[0]? = some (.pointer (some ⟨b, 0, none⟩)) ∧ RunV Tryd.prog [(5, .pointer (some ⟨b, 0, none⟩)), (4, .pointer (some ⟨b, 0, none⟩)), (3, .pointer (some ⟨b, 0, none⟩)), (2, .pointer (some ⟨b, 0, none⟩)), (0, .pointer (some ⟨b, 0, none⟩))] [(b, .cells (#[.pointer (some ⟨b, 0, none⟩), rv] : Array Value) 85)] (opAt Tryd.f51 0 4) (.bool false) ∧ Kt [(6, .bool false), (0, .pointer (some ⟨b, 0, none⟩))] [(b, .cells (#[.pointer (some ⟨b, 0, none⟩), rv] : Array Value) 85)]) (by kernel_rfl) (fun _ => by kernel_rfl) (⟨rfl, rfl, (ptrSome_ok (t := 83) (t' := 83) (x := .tmp 5) (y := (.const (.pointer none))) (by kernel_rfl) rfl rfl Tryd.underlying83), fun ac1 wd1 FF1 MM1 => then_n ?_⟩))
  refine wp_cond_false (FF1.ev 0 rfl) ?_
  refine wp_seq (rg_seq FF1 MM1 [o_, o_, o_, l_ 0 (.pointer (some ⟨b, 0, none⟩)), o_, f_ (.bool false)] [0, 19] (fun Kt => b = b ∧ (#[.pointer (some ⟨b, 0, none⟩), rv] : Array Value)[0]? = some (.pointer (some ⟨b, 0, none⟩)) ∧ RunV Tryd.prog [(18, .pointer (some ⟨b, 0, none⟩)), (17, .pointer (some ⟨b, 0, none⟩)), (16, .pointer (some ⟨b, 0, none⟩)), (15, .pointer (some ⟨b, 0, none⟩)), (14, .pointer (some ⟨b, 0, none⟩)), (6, .bool false), (0, .pointer (some ⟨b, 0, none⟩))] [(b, .cells (#[.pointer (some ⟨b, 0, none⟩), rv] : Array Value) 85)] (opAt Tryd.f51 2 5) (.bool false) ∧ Kt [(19, .bool false), (0, .pointer (some ⟨b, 0, none⟩))] [(b, .cells (#[.pointer (some ⟨b, 0, none⟩), rv] : Array Value) 85)]) (by kernel_rfl) (fun _ => by kernel_rfl) (⟨rfl, rfl, (ptrSame_ok (t := 83) (t' := 83) (x := .tmp 17) (y := .tmp 18) (by kernel_rfl) rfl rfl Tryd.underlying83 (by kernel_rfl)), fun ac2 wd2 FF2 MM2 => then_n ?_⟩))
  refine wp_cond_false (FF2.ev 0 rfl) ?_
  refine wp_skip ?_
  exact (end_none FF2 Tryd.results51 ⟨rfl, MM2.post1 0 rfl hj⟩)
theorem copychk_any (p rv : Value) (b j : Nat) (hp : p = .pointer none ∨ p = .pointer (some ⟨b, 0, none⟩)) (L : Blks) (hj : L[j]? = some (b, .cells #[p, rv] 85)) (w0 : World) (H : Has w0 L) :
    Calls Tryd.prog 51 #[.pointer (some ⟨b, 0, none⟩)] w0 fun e w' => e = .returned (.tuple #[]) ∧ Post w0 w' L ⟨fun _ => .tuple #[], none, [(j, .cells #[.pointer (some ⟨b, 0, none⟩), rv] 85)]⟩ 0 := by
  rcases hp with rfl | rfl
  · exact copychk_fresh rv b j L hj w0 H
  · exact copychk_used rv b j L hj w0 H
set_option maxRecDepth 100000 in
theorem bwrite_any {S : Nat → Prop} {w0 : World} {L : Blks} {R : List Row} {p : Value} {q : Option Addr} {b n c : Nat} {X : List Value} {Y : List Nat} (hp : p = .pointer none ∨ p = .pointer (some ⟨b, 0, none⟩)) (hY : ∀ i, Y.getD i 0 < 256) (hb : n + Y.length ≤ 140737488355328) (w : World)
    (M : MemS S w0 w ((b, .cells #[p, .slice q n c] 85) :: L) ((.slice q n c, 5, 1, n, X) :: R)) :
    Calls Tryd.prog 44 #[.pointer (some ⟨b, 0, none⟩), .string (bs Y)] w fun e w' => e = .returned (.tuple #[.int .i64 (Y.length : Nat), .nilIface]) ∧
      ∃ q' c', MemS S w0 w' ((b, .cells #[.pointer (some ⟨b, 0, none⟩), .slice q' (n + Y.length) c'] 85) :: L) ((.slice q' (n + Y.length) c', 5, 1, n + Y.length, X ++ bcells Y) :: R) := by
  refine enter_fr Tryd.func44 rfl Tryd.ntmps44 (by simp) fun ac (FF : Fr 19 ac [(0, .pointer (some ⟨b, 0, none⟩)), (1, .string (bs Y))]) => ?_
  refine wp_seq (rg_seq FF M [o_, o_] [0, 1, 4, 5] (fun Kt => Kt [(5, .nilIface), (4, .int .i64 (0 : Nat)), (0, .pointer (some ⟨b, 0, none⟩)), (1, .string (bs Y))] ((b, .cells (#[p, .slice q n c] : Array Value) 85) :: L)) (by kernel_rfl) (fun _ => by kernel_rfl) (fun ac1 wd1 FF1 MM1 => then_n ?_))
  refine wp_seq (rg_seq FF1 MM1 [o_, c_ (.tuple #[]) [(0, .cells (#[.pointer (some ⟨b, 0, none⟩), .slice q n c] : Array Value) 85)]] [5, 4, 0, 1] (fun Kt => CallU Tryd.prog 51 [.pointer (some ⟨b, 0, none⟩)] ((b, .cells (#[p, .slice q n c] : Array Value) 85) :: L) (.tuple #[]) [(0, .cells (#[.pointer (some ⟨b, 0, none⟩), .slice q n c] : Array Value) 85)] ∧ Kt [(5, .nilIface), (4, .int .i64 (0 : Nat)), (0, .pointer (some ⟨b, 0, none⟩)), (1, .string (bs Y))] ((b, .cells (#[.pointer (some ⟨b, 0, none⟩), .slice q n c] : Array Value) 85) :: L)) (by kernel_rfl) (fun _ => by kernel_rfl) (⟨⟨en_copychk, fun w H => copychk_any _ _ _ 0 hp _ rfl w H⟩, fun ac2 wd2 FF2 MM2 => then_n ?_⟩))
  refine wp_seq (wp_region_list ?_)
  refine rg_part 6 FF2 MM2 [o_, o_, o_, o_, l_ 0 (.slice q n c), o_] [5, 4, 0, 1, 8, 12, 13] (fun Kt => b = b ∧ (#[.pointer (some ⟨b, 0, none⟩), .slice q n c] : Array Value)[1]? = some (.slice q n c) ∧ Kt [(13, .string (bs Y)), (12, .slice q n c), (8, .pointer (some ⟨b, 0, none⟩)), (5, .nilIface), (4, .int .i64 (0 : Nat)), (0, .pointer (some ⟨b, 0, none⟩)), (1, .string (bs Y))] ((b, .cells (#[.pointer (some ⟨b, 0, none⟩), .slice q n c] : Array Value) 85) :: L)) (by kernel_rfl) (fun _ => by kernel_rfl) (⟨rfl, rfl, fun ac3 wd3 FF3 MM3 => ?_⟩)
  refine st_appStr [8, 5, 4, 0, 1, 14] FF3 MM3 (d := 14) (s := 12) (Y := Y) rfl rfl rfl hY Tryd.underlying63 Tryd.underlying9 (by kernel_rfl) hb rfl rfl (by decide) fun ac6 wd6 rq4 rc5 (FF6 : Fr 19 ac6 [(14, .slice rq4 (n + Y.length) rc5), (8, .pointer (some ⟨b, 0, none⟩)), (5, .nilIface), (4, .int .i64 (0 : Nat)), (0, .pointer (some ⟨b, 0, none⟩)), (1, .string (bs Y))]) (MM6 : MemS S w0 wd6 ((b, .cells (#[.pointer (some ⟨b, 0, none⟩), .slice q n c] : Array Value) 85) :: L) ((.slice rq4 (n + Y.length) rc5, 5, 1, (n + Y.length), (X ++ bcells Y)) :: R)) => ?_
  refine rg_part 3 FF6 MM6 [o_, o_, s_ 0 (.cells (#[.pointer (some ⟨b, 0, none⟩), .slice rq4 (n + Y.length) rc5] : Array Value) 85)] [5, 4, 0, 1] (fun Kt => b = b ∧ 1 < (#[.pointer (some ⟨b, 0, none⟩), .slice q n c] : Array Value).size ∧ (((0, 0)).2 = 0 ∨ 1 < ((0, 0)).1) ∧ (#[.pointer (some ⟨b, 0, none⟩), .slice q n c] : Array Value).setIfInBounds 1 (.slice rq4 (n + Y.length) rc5) = #[.pointer (some ⟨b, 0, none⟩), .slice rq4 (n + Y.length) rc5] ∧ Kt [(5, .nilIface), (4, .int .i64 (0 : Nat)), (0, .pointer (some ⟨b, 0, none⟩)), (1, .string (bs Y))] ((b, .cells (#[.pointer (some ⟨b, 0, none⟩), .slice rq4 (n + Y.length) rc5] : Array Value) 85) :: L)) (by kernel_rfl) (fun _ => by kernel_rfl) (⟨rfl, (by simp), (.inl rfl), rfl, fun ac7 wd7 FF7 MM7 => ?_⟩)
  refine wpl_nil (then_n ?_)
  refine wp_seq (rg_seq FF7 MM7 [o_, t_ (.int .i64 (Y.length : Nat)), o_, o_] [5, 4, 0, 1] (fun Kt => Value.int .i64 ((bs Y).size : Nat) = .int .i64 (Y.length : Nat) ∧ Kt [(5, .nilIface), (4, .int .i64 (Y.length : Nat)), (0, .pointer (some ⟨b, 0, none⟩)), (1, .string (bs Y))] ((b, .cells (#[.pointer (some ⟨b, 0, none⟩), .slice rq4 (n + Y.length) rc5] : Array Value) 85) :: L)) (by kernel_rfl) (fun _ => by kernel_rfl) (⟨(vI (bs_size _)), fun ac8 wd8 FF8 MM8 => then_n ?_⟩))
  refine wp_ret ?_
  repeat first | refine then_ret ?_ | refine inb_ret ?_
  exact (ret_tup2 FF8 1 0 Tryd.results44 rfl rfl ⟨rfl, ⟨_, _, MM8⟩⟩)
set_option maxRecDepth 100000 in
theorem bstring_nil {S : Nat → Prop} {w0 : World} {L : Blks} {R : List Row} {p : Value} {b : Nat} (w : World) (M : MemS S w0 w ((b, .cells #[p, .slice none 0 0] 85) :: L) R) :
    Calls Tryd.prog 47 #[.pointer (some ⟨b, 0, none⟩)] w fun e w' => e = .returned (.string (bs [])) ∧ MemS S w0 w' ((b, .cells #[p, .slice none 0 0] 85) :: L) R := by
  refine enter_fr Tryd.func47 rfl Tryd.ntmps47 (by simp) fun ac (FF : Fr 14 ac [(0, .pointer (some ⟨b, 0, none⟩))]) => ?_
  refine wp_seq (rg_seq FF M [o_] [0, 2] (fun Kt => Kt [(2, .string (bs [])), (0, .pointer (some ⟨b, 0, none⟩))] ((b, .cells (#[p, .slice none 0 0] : Array Value) 85) :: L)) (by kernel_rfl) (fun _ => by kernel_rfl) (fun ac1 wd1 FF1 MM1 => then_n ?_))
  refine wp_seq (rg_draw FF1 MM1 [.inl (.pointer (some ⟨b, 0, none⟩)), .inl (.pointer (some ⟨b, 0, none⟩)), .inl (.pointer (some ⟨b, 1, none⟩)), .inl (.slice none 0 0), .inl (.pointer none), .inl (.pointer (some ⟨b, 0, none⟩)), .inl (.pointer (some ⟨b, 0, none⟩)), .inl (.pointer (some ⟨b, 1, none⟩)), .inl (.slice none 0 0), .inl (.int .i64 (0 : Nat)), .inl (.string (bs [])), .inl (.string (bs []))] [] [o_, o_, o_, l_ 0 (.slice none 0 0), f_ (.pointer none), o_, o_, o_, l_ 0 (.slice none 0 0), o_, f_ (.string (bs [])), o_] [] [2] (fun nb => [b = b, (#[p, .slice none 0 0] : Array Value)[1]? = some (.slice none 0 0), RunV Tryd.prog [(6, .slice none 0 0), (0, .pointer (some ⟨b, 0, none⟩))] ((b, .cells (#[p, .slice none 0 0] : Array Value) 85) :: L) (opAt Tryd.f47 1 4) (.pointer none), b = b, (#[p, .slice none 0 0] : Array Value)[1]? = some (.slice none 0 0), RunV Tryd.prog [(7, .pointer none), (12, .int .i64 (0 : Nat)), (0, .pointer (some ⟨b, 0, none⟩))] ((b, .cells (#[p, .slice none 0 0] : Array Value) 85) :: L) (opAt Tryd.f47 1 10) (.string (bs []))]) (fun nb Kt => Kt [(2, .string (bs []))] ((b, .cells (#[p, .slice none 0 0] : Array Value) 85) :: L)) (by kernel_rfl) (by kernel_rfl) (by kernel_rfl) (fun _ => by kernel_rfl) (fun _ _ => by kernel_rfl) trivial (fun nb => ⟨rfl, rfl, (sdNil_ok (t := 63) (x := .tmp 6) (by kernel_rfl) rfl), rfl, rfl, (usNil_ok (t := 99) (u := 3) (x := .tmp 7) (y := .tmp 12) (by kernel_rfl) rfl rfl), trivial⟩) (fun nb => fun ac2 wd2 FF2 MM2 => then_n ?_))
  refine wp_ret ?_
  repeat first | refine then_ret ?_ | refine inb_ret ?_
  exact (ret_fr FF2 0 Tryd.results47 rfl ⟨rfl, MM2⟩)
set_option maxRecDepth 100000 in
theorem bstring_row {S : Nat → Prop} {w0 : World} {L : Blks} {R : List Row} {p : Value} {b : Nat} {g c : Nat} {cur : Array Value} {X : List Nat} (h0 : 0 < X.length) (hX : ∀ i, X.getD i 0 < 256) (hn : X.length ≤ cur.size) (h63 : X.length ≤ 9223372036854775807) (hc : c ≠ 0) (hcs : ∀ j, j < X.length → cur[j]? = some (.int .u8 (X.getD j 0 : Nat))) (w : World) (M : MemS S w0 w ((g, .cells cur 5) :: (b, .cells #[p, .slice (some ⟨g, 0, none⟩) X.length c] 85) :: L) R) :
    Calls Tryd.prog 47 #[.pointer (some ⟨b, 0, none⟩)] w fun e w' => e = .returned (.string (bs X)) ∧ MemS S w0 w' ((b, .cells #[p, .slice (some ⟨g, 0, none⟩) X.length c] 85) :: L) R := by
  refine enter_fr Tryd.func47 rfl Tryd.ntmps47 (by simp) fun ac (FF : Fr 14 ac [(0, .pointer (some ⟨b, 0, none⟩))]) => ?_
  refine wp_seq (rg_seq FF M [o_] [0, 2] (fun Kt => Kt [(2, .string (bs [])), (0, .pointer (some ⟨b, 0, none⟩))] ((g, .cells cur 5) :: (b, .cells (#[p, .slice (some ⟨g, 0, none⟩) X.length c] : Array Value) 85) :: L)) (by kernel_rfl) (fun _ => by kernel_rfl) (fun ac1 wd1 FF1 MM1 => then_n ?_))
  refine wp_seq (rg_draw FF1 MM1 [.inl (.pointer (some ⟨b, 0, none⟩)), .inl (.pointer (some ⟨b, 0, none⟩)), .inl (.pointer (some ⟨b, 1, none⟩)), .inl (.slice (some ⟨g, 0, none⟩) X.length c), .inl (.pointer (some ⟨g, 0, none⟩)), .inl (.pointer (some ⟨b, 0, none⟩)), .inl (.pointer (some ⟨b, 0, none⟩)), .inl (.pointer (some ⟨b, 1, none⟩)), .inl (.slice (some ⟨g, 0, none⟩) X.length c), .inl (.int .i64 (X.length : Nat))] [] [o_, o_, o_, l_ 1 (.slice (some ⟨g, 0, none⟩) X.length c), f_ (.pointer (some ⟨g, 0, none⟩)), o_, o_, o_, l_ 1 (.slice (some ⟨g, 0, none⟩) X.length c), o_] [r_ (.string (bs X)) [(0, .cells cur 5 (0, X.length))], o_] [2] (fun nb => [b = b, (#[p, .slice (some ⟨g, 0, none⟩) X.length c] : Array Value)[1]? = some (.slice (some ⟨g, 0, none⟩) X.length c), RunV Tryd.prog [(6, .slice (some ⟨g, 0, none⟩) X.length c), (2, .string (bs [])), (0, .pointer (some ⟨b, 0, none⟩))] ((g, .cells cur 5) :: (b, .cells (#[p, .slice (some ⟨g, 0, none⟩) X.length c] : Array Value) 85) :: L) (opAt Tryd.f47 1 4) (.pointer (some ⟨g, 0, none⟩)), b = b, (#[p, .slice (some ⟨g, 0, none⟩) X.length c] : Array Value)[1]? = some (.slice (some ⟨g, 0, none⟩) X.length c)]) (fun nb Kt => RunU Tryd.prog [(12, .int .i64 (X.length : Nat)), (11, .slice (some ⟨g, 0, none⟩) X.length c), (10, .pointer (some ⟨b, 1, none⟩)), (9, .pointer (some ⟨b, 0, none⟩)), (8, .pointer (some ⟨b, 0, none⟩)), (7, .pointer (some ⟨g, 0, none⟩)), (6, .slice (some ⟨g, 0, none⟩) X.length c), (5, .pointer (some ⟨b, 1, none⟩)), (4, .pointer (some ⟨b, 0, none⟩)), (3, .pointer (some ⟨b, 0, none⟩)), (2, .string (bs [])), (0, .pointer (some ⟨b, 0, none⟩))] ((g, .cells cur 5) :: (b, .cells (#[p, .slice (some ⟨g, 0, none⟩) X.length c] : Array Value) 85) :: L) (opAt Tryd.f47 1 10) (.string (bs X)) [(0, .cells cur 5 (0, X.length))] ∧ Kt [(2, .string (bs X))] ((g, .cells cur 5 (0, X.length)) :: (b, .cells (#[p, .slice (some ⟨g, 0, none⟩) X.length c] : Array Value) 85) :: L)) (by kernel_rfl) (by kernel_rfl) (by kernel_rfl) (fun _ => by kernel_rfl) (fun _ _ => by kernel_rfl) trivial (fun nb => ⟨rfl, rfl, (sdRow_ok (t := 63) (x := .tmp 6) (by kernel_rfl) rfl hc), rfl, rfl, trivial⟩) (fun nb => ⟨(usRow_ok (t := 99) (u := 3) (e := 5) (i := 0) (x := .tmp 7) (y := .tmp 12) (by kernel_rfl) rfl rfl Tryd.underlying99 (by kernel_rfl) rfl h0 hX hn h63 hcs), fun ac2 wd2 FF2 MM2 => then_n ?_⟩))
  refine wp_ret ?_
  repeat first | refine then_ret ?_ | refine inb_ret ?_
  exact (ret_fr FF2 0 Tryd.results47 rfl ⟨rfl, MM2.dropAt 0⟩)
theorem bstring_any {S : Nat → Prop} {w0 : World} {L : Blks} {R : List Row} {p : Value} {q : Option Addr} {b n c : Nat} {X : List Nat} (hX : ∀ i, X.getD i 0 < 256) (hq : 0 < n ∨ q = none) (w : World)
    (M : MemS S w0 w ((b, .cells #[p, .slice q n c] 85) :: L) ((.slice q n c, 5, 1, n, bcells X) :: R)) :
    Calls Tryd.prog 47 #[.pointer (some ⟨b, 0, none⟩)] w fun e w' => e = .returned (.string (bs X)) ∧ MemS S w0 w' ((b, .cells #[p, .slice q n c] 85) :: L) R := by
  have hown : w.ownsRow w0.heap.size 5 1 (.slice q n c) n (bcells X) := M.rows _ (List.mem_cons_self ..)
  have hl : X.length = n := by have := hown.1; simpa [bcells] using this
  subst hl
  rcases hown.2 with ⟨h1, h2⟩ | ⟨g, cap, cur, h1, _⟩
  · simp only [Value.slice.injEq] at h1
    obtain ⟨rfl, _, rfl⟩ := h1
    obtain rfl : X = [] := List.eq_nil_of_length_eq_zero h2
    exact bstring_nil w M.dropRow
  · simp only [Value.slice.injEq] at h1
    obtain ⟨rfl, _, rfl⟩ := h1
    have h0 : 0 < X.length := hq.resolve_right (by simp)
    obtain ⟨cur, M', _, h4, h5, h6, h7, _⟩ := M.freeze
    rw [Nat.mul_one] at h6 h7
    refine bstring_row h0 hX (by omega) (by simp only [maxLen] at h5; omega) (by omega) (fun j hj => ?_) w M'
    have e1 := congrArg (fun l => l[j]?) h7
    simp only [List.getElem?_take, if_pos hj] at e1
    rw [show cur[j]? = cur.toList[j]? by simp, e1]
    simp [bcells, hj]

end Go.Proofs.YtdeiodcfblldgaaDoor
namespace Go.Proofs.YtdeiodcfblldgaaDoor
open Go.RowKit

/-- How long a slot's row is. -/
def lenS (t : Nat) (a : Act) : Nat := match a.tmps[t]? with | some (.slice _ n _) => n | _ => 0
theorem lenS_row {S : Nat → Prop} {w0 w : World} {L : Blks} {R : List Row} {a : Act} {t m k : Nat} {e : TypeId} {v : Value} {X : List Value} (h : a.tmps[t]? = some v) (M : MemS S w0 w L ((v, e, k, m, X) :: R)) : lenS t a = m := by
  obtain ⟨p, c, rfl, _⟩ := M.rowLen
  unfold lenS; rw [h]
theorem qleV_quot (K : Nat) : qleV (qleB (qsz K) (K / 10000000000000000000)) = K / 10000000000000000000 := by rw [qleV_leB, Nat.mod_eq_of_lt (Nat.lt_of_le_of_lt (Nat.div_le_self _ _) (qsz_ok K).1)]
theorem g_top {M : Nat} (h : M ≠ 0) : M / 10000000000000000000 ^ (gsz M - 1) < 10000000000000000000 := by
  have hp := gsz_pos h
  refine Nat.div_lt_of_lt_mul ?_
  rw [← Nat.pow_succ, show (gsz M - 1).succ = gsz M by omega]
  exact (gsz_ok M).1
set_option maxRecDepth 100000 in
theorem digs_main (g cap M : Nat) (rest0 : Array Value) (O : Blks) (hT : TabO O) (h0 : M ≠ 0) (hsz : (cn .u64 (qminB M) ++ rest0).size = cap) (hs : qsz M < 1000000) (w0 : World) (H : Has w0 ((g, Obj.cells (cn .u64 (qminB M) ++ rest0) 71) :: O)) (hD : Distinct ((g, Obj.cells (cn .u64 (qminB M) ++ rest0) 71) :: O)) :
    Calls Tryd.prog 39 #[.slice (some ⟨g, 0, none⟩) (qsz M) cap] w0 fun e w' => e = .returned (.string (bs (decN M))) ∧ ∃ ob, Turn g ob w0 w' := by
  refine enter_fr Tryd.func39 rfl Tryd.ntmps39 (by simp) fun ac (FF0 : Fr 49 ac [(0, .slice (some ⟨g, 0, none⟩) (qsz M) cap)]) => ?_
  have e0 : M / 10000000000000000000 ^ 0 = M := by rw [Nat.pow_zero, Nat.div_one]
  have FF : Fr 49 ac [(0, trimV (some ⟨g, 0, none⟩) (M / 10000000000000000000 ^ 0) cap)] := by rw [e0, trimV_pos _ _ h0]; exact FF0
  have MM0 : MemS (fun k => k < w0.heap.size ∧ ∀ x ∈ (g, Obj.cells (cn .u64 (qminB M) ++ rest0) 71) :: O, x.1 ≠ k) w0 w0 ((g, .cells (cn .u64 (qminB M) ++ rest0) 71) :: O) [] := MemS.startN H hD
  have MM : MemS (fun k => k < w0.heap.size ∧ ∀ x ∈ (g, Obj.cells (cn .u64 (qminB M) ++ rest0) 71) :: O, x.1 ≠ k) w0 w0 ((g, .cells ((cn .u64 (qminB (M / 10000000000000000000 ^ 0))) ++ rest0) 71) :: O) [] := by rw [e0]; exact MM0
  have hz0 : (cn .u64 (qminB (M / 10000000000000000000 ^ 0)) ++ rest0).size = cap := by rw [e0]; exact hsz
  have hgb := gsz_bd M
  refine wp_seq (rg_seq FF MM [o_] [0, 2] (fun Kt => Kt [(2, .string (bs [])), (0, trimV (some ⟨g, 0, none⟩) (M / 10000000000000000000 ^ 0) cap)] ((g, .cells ((cn .u64 (qminB (M / 10000000000000000000 ^ 0))) ++ rest0) 71) :: O)) (by kernel_rfl) (fun _ => by kernel_rfl) (fun ac1 wd1 FF1 MM1 => then_n ?_))
  refine wp_seq (rg_seq FF1 MM1 [o_] [2, 0, 3] (fun Kt => Kt [(3, .slice none 0 0), (2, .string (bs [])), (0, trimV (some ⟨g, 0, none⟩) (M / 10000000000000000000 ^ 0) cap)] ((g, .cells ((cn .u64 (qminB (M / 10000000000000000000 ^ 0))) ++ rest0) 71) :: O)) (by kernel_rfl) (fun _ => by kernel_rfl) (fun ac2 wd2 FF2 MM2 => then_n ?_))
  have MMn : MemS (fun k => k < w0.heap.size ∧ ∀ x ∈ (g, Obj.cells (cn .u64 (qminB M) ++ rest0) 71) :: O, x.1 ≠ k) w0 wd2 ((g, .cells ((cn .u64 (qminB (M / 10000000000000000000 ^ 0))) ++ rest0) 71) :: O) [(.slice none 0 0, 71, 1, 0, (wc (gleB 0 M)))] := MM2.rowNil 71 1
  refine wp_seq ?_
  refine wp_for2w (fun a' w' => ∃ i : Nat, ∃ rv : Value, ∃ rs : Array Value, i ≤ gsz M ∧ (cn .u64 (qminB (M / 10000000000000000000 ^ i)) ++ rs).size = cap ∧ Fr 49 a' [(3, rv), (2, .string (bs [])), (0, trimV (some ⟨g, 0, none⟩) (M / 10000000000000000000 ^ i) cap)] ∧ MemS (fun k => k < w0.heap.size ∧ ∀ x ∈ (g, Obj.cells (cn .u64 (qminB M) ++ rest0) 71) :: O, x.1 ≠ k) w0 w' ((g, .cells ((cn .u64 (qminB (M / 10000000000000000000 ^ i))) ++ rs) 71) :: O) [(rv, 71, 1, i, (wc (gleB i M)))]) (fun a' _ => gsz M - lenS 3 a') ⟨0, (.slice none 0 0), rest0, Nat.zero_le _, hz0, FF2.pick [0, 1, 2], MMn⟩ ?_
  rintro ac3 wd3 ⟨i, rv, rs, hi, hzr, FF3, MM3⟩
  have hc := lenS_row (FF3.get 0 rfl) MM3
  by_cases h1 : qsz (M / 10000000000000000000 ^ i) > 0
  · skip
    refine rg_seq FF3 MM3 [o_, o_, w_ 2] [3, 2, 0, 10] (fun Kt => (qsz (M / 10000000000000000000 ^ i)) > 0 ∧ Kt [(10, .bool true), (3, rv), (2, .string (bs [])), (0, trimV (some ⟨g, 0, none⟩) (M / 10000000000000000000 ^ i) cap)] ((g, .cells ((cn .u64 (qminB (M / 10000000000000000000 ^ i))) ++ rs) 71) :: O)) (by kernel_rfl) (fun _ => by kernel_rfl) (⟨h1, fun ac4 wd4 FF4 MM4 => ?_⟩)
    refine then_n (.inl ⟨FF4.ev 0 rfl, ?_⟩)
    have hKne : M / 10000000000000000000 ^ i ≠ 0 := fun e => by rw [e] at h1; exact absurd h1 (by decide)
    have hig := g_more hKne
    have hKs : qsz (M / 10000000000000000000 ^ i) ≤ qsz M := qsz_mono (Nat.div_le_self _ _)
    rw [trimV_pos _ _ hKne] at FF4
    have hcapK : qsz (M / 10000000000000000000 ^ i) ≤ cap := by rw [← hzr, Array.size_append, cn_size, qminB_len]; omega
    refine wp_seq (wp_region_list ?_)
    refine rg_part 2 FF4 MM4 [o_, o_] [3, 2, 0, 11, 12] (fun Kt => Kt [(12, .slice (some ⟨g, 0, none⟩) (qsz (M / 10000000000000000000 ^ i)) cap), (11, rv), (3, rv), (2, .string (bs [])), (0, .slice (some ⟨g, 0, none⟩) (qsz (M / 10000000000000000000 ^ i)) cap)] ((g, .cells ((cn .u64 (qminB (M / 10000000000000000000 ^ i))) ++ rs) 71) :: O)) (by kernel_rfl) (fun _ => by kernel_rfl) (fun ac5 wd5 FF5 MM5 => ?_)
    refine st_callM [11, 3, 2, 0, 13] FF5 (d := 13) en_parted rfl rfl (parted_any g cap (M / 10000000000000000000 ^ i) rs hzr (by omega) _ (MM5.get 0 rfl)) rfl (by kernel_rfl) (by decide) fun ac6 wd6 (FF6 : Fr 49 ac6 [(13, .int .u64 (M / 10000000000000000000 ^ i % 10000000000000000000 : Nat)), (11, rv), (3, rv), (2, .string (bs [])), (0, .slice (some ⟨g, 0, none⟩) (qsz (M / 10000000000000000000 ^ i)) cap)]) hr7 => ?_
    have MM6t : MemS (fun k => k < w0.heap.size ∧ ∀ x ∈ (g, Obj.cells (cn .u64 (qminB M) ++ rest0) 71) :: O, x.1 ≠ k) w0 wd6 ((g, .cells ((cn .u64 (qleB (qsz (M / 10000000000000000000 ^ i)) (M / 10000000000000000000 ^ i / 10000000000000000000))) ++ rs) 71) :: O) [(rv, 71, 1, i, (wc (gleB i M)))] := MM5.turned hr7
    refine rg_part 1 FF6 MM6t [o_] [11, 3, 2, 0, 14] (fun Kt => ∀ bq, Kt [(14, .slice (some ⟨bq, 0, none⟩) 1 1), (11, rv), (3, rv), (2, .string (bs [])), (0, .slice (some ⟨g, 0, none⟩) (qsz (M / 10000000000000000000 ^ i)) cap)] ((bq, .cells (cn .u64 ([M / 10000000000000000000 ^ i % 10000000000000000000])) 71) :: (g, .cells ((cn .u64 (qleB (qsz (M / 10000000000000000000 ^ i)) (M / 10000000000000000000 ^ i / 10000000000000000000))) ++ rs) 71) :: O)) (by kernel_rfl) (fun _ => by kernel_rfl) (fun bq => fun ac8 wd8 FF8 MM8 => ?_)
    refine st_app [3, 2, 0, 15] FF8 MM8 (d := 15) (s := 11) (x := 14) (Y := (wc [M / 10000000000000000000 ^ i % 10000000000000000000])) (z := .int .u64 (0 : Nat)) (bb := 8) rfl rfl rfl rfl (lies_cn64 (MM8.get 0 rfl)) (wc_one _) (by decide) Tryd.underlying46 (by kernel_rfl) rfl (by decide) (by simp only [maxLen]; omega) (by omega) rfl rfl (by decide) fun ac10 wd10 rv9 (FF10 : Fr 49 ac10 [(15, rv9), (3, rv), (2, .string (bs [])), (0, .slice (some ⟨g, 0, none⟩) (qsz (M / 10000000000000000000 ^ i)) cap)]) (MM10 : MemS (fun k => k < w0.heap.size ∧ ∀ x ∈ (g, Obj.cells (cn .u64 (qminB M) ++ rest0) 71) :: O, x.1 ≠ k) w0 wd10 ((bq, .cells (cn .u64 ([M / 10000000000000000000 ^ i % 10000000000000000000])) 71) :: (g, .cells ((cn .u64 (qleB (qsz (M / 10000000000000000000 ^ i)) (M / 10000000000000000000 ^ i / 10000000000000000000))) ++ rs) 71) :: O) [(rv9, 71, 1, (i + 1), ((wc (gleB i M)) ++ (wc [M / 10000000000000000000 ^ i % 10000000000000000000])))]) => ?_
    have MMa : MemS (fun k => k < w0.heap.size ∧ ∀ x ∈ (g, Obj.cells (cn .u64 (qminB M) ++ rest0) 71) :: O, x.1 ≠ k) w0 wd10 ((bq, .cells (cn .u64 ([M / 10000000000000000000 ^ i % 10000000000000000000])) 71) :: (g, .cells ((cn .u64 (qleB (qsz (M / 10000000000000000000 ^ i)) (M / 10000000000000000000 ^ i / 10000000000000000000))) ++ rs) 71) :: O) [(rv9, 71, 1, (i + 1), (wc (gleB (i + 1) M)))] := by have h9 := MM10; rw [wc_app, ← gleB_succ] at h9; exact h9
    refine rg_part 1 FF10 MMa [o_] [3, 2, 0] (fun Kt => Kt [(3, rv9), (2, .string (bs [])), (0, .slice (some ⟨g, 0, none⟩) (qsz (M / 10000000000000000000 ^ i)) cap)] ((bq, .cells (cn .u64 ([M / 10000000000000000000 ^ i % 10000000000000000000])) 71) :: (g, .cells ((cn .u64 (qleB (qsz (M / 10000000000000000000 ^ i)) (M / 10000000000000000000 ^ i / 10000000000000000000))) ++ rs) 71) :: O)) (by kernel_rfl) (fun _ => by kernel_rfl) (fun ac11 wd11 FF11 MM11 => ?_)
    refine wpl_nil (then_n ?_)
    refine rg_seq FF11 MM11 [o_, u_ 1 (trimV (some ⟨g, 0, none⟩) (M / 10000000000000000000 ^ i / 10000000000000000000) cap), o_] [3, 2, 0] (fun Kt => CallP Tryd.prog 34 [.slice (some ⟨g, 0, none⟩) (qsz (M / 10000000000000000000 ^ i)) cap] ((bq, .cells (cn .u64 ([M / 10000000000000000000 ^ i % 10000000000000000000])) 71) :: (g, .cells ((cn .u64 (qleB (qsz (M / 10000000000000000000 ^ i)) (M / 10000000000000000000 ^ i / 10000000000000000000))) ++ rs) 71) :: O) (trimV (some ⟨g, 0, none⟩) (M / 10000000000000000000 ^ i / 10000000000000000000) cap) ∧ Kt [(0, trimV (some ⟨g, 0, none⟩) (M / 10000000000000000000 ^ i / 10000000000000000000) cap), (3, rv9), (2, .string (bs []))] ((bq, .cells (cn .u64 ([M / 10000000000000000000 ^ i % 10000000000000000000])) 71) :: (g, .cells ((cn .u64 (qleB (qsz (M / 10000000000000000000 ^ i)) (M / 10000000000000000000 ^ i / 10000000000000000000))) ++ rs) 71) :: O)) (by kernel_rfl) (fun _ => by kernel_rfl) (⟨⟨en_trimd, fun w Hw => by have h0 := trimd_any (some ⟨g, 0, none⟩) cap (qleB (qsz (M / 10000000000000000000 ^ i)) (M / 10000000000000000000 ^ i / 10000000000000000000)) (qleB_lt _ _) (by rw [qleB_len]; exact hcapK) (by rw [qleB_len]; omega) w (.inr ⟨g, _, _, _, rfl, Hw 1 _ rfl, fun j hj => (Array.getElem?_append_left (by rw [cn_size]; exact hj)).trans (cn_get _ _ _ hj)⟩); rw [show (qleB (qsz (M / 10000000000000000000 ^ i)) (M / 10000000000000000000 ^ i / 10000000000000000000)).length = qsz (M / 10000000000000000000 ^ i) from (qleB_len _ _), qleV_quot] at h0; exact h0⟩, fun ac12 wd12 FF12 MM12 => ?_⟩)
    obtain ⟨rs2, hrs2⟩ := reb (n := qsz (M / 10000000000000000000 ^ i)) (K := M / 10000000000000000000 ^ (i + 1)) (by rw [← g_next]; exact qsz_mono (Nat.div_le_self _ _)) rs
    have hzr2 : (cn .u64 (qminB (M / 10000000000000000000 ^ (i + 1))) ++ rs2).size = cap := by rw [← hrs2, Array.size_append, cn_size, qleB_len]; rw [Array.size_append, cn_size, qminB_len] at hzr; exact hzr
    have MMb : MemS (fun k => k < w0.heap.size ∧ ∀ x ∈ (g, Obj.cells (cn .u64 (qminB M) ++ rest0) 71) :: O, x.1 ≠ k) w0 wd12 ((bq, .cells (cn .u64 ([M / 10000000000000000000 ^ i % 10000000000000000000])) 71) :: (g, .cells ((cn .u64 (qminB (M / 10000000000000000000 ^ (i + 1)))) ++ rs2) 71) :: O) [(rv9, 71, 1, (i + 1), (wc (gleB (i + 1) M)))] := by rw [← hrs2, ← g_next]; exact MM12
    rw [g_next] at FF12
    refine inb_n ?_
    have hd := lenS_row (FF12.get 1 rfl) MMb
    refine then_n ⟨⟨i + 1, rv9, rs2, by omega, hzr2, FF12.pick [1, 2, 0], (MMb.dropAt 0)⟩, ?_⟩
    rw [hc, hd]; omega
  · skip
    refine rg_seq FF3 MM3 [o_, o_, w_ 3] [3, 2, 0, 10] (fun Kt => ¬ ((qsz (M / 10000000000000000000 ^ i)) > 0) ∧ Kt [(10, .bool false), (3, rv), (2, .string (bs [])), (0, trimV (some ⟨g, 0, none⟩) (M / 10000000000000000000 ^ i) cap)] ((g, .cells ((cn .u64 (qminB (M / 10000000000000000000 ^ i))) ++ rs) 71) :: O)) (by kernel_rfl) (fun _ => by kernel_rfl) (⟨h1, fun ac13 wd13 FF13 MM13 => ?_⟩)
    refine then_n (.inr ⟨FF13.ev 0 rfl, ?_⟩)
    have hK0 : M / 10000000000000000000 ^ i = 0 := qz0 (by omega)
    have hie : i = gsz M := by have := Nat.le_of_not_lt fun h => g_less h hK0; omega
    subst hie
    refine then_n ?_
    refine wp_seq ?_
    have hgp := gsz_pos h0
    obtain ⟨pg, gc, rfl, _⟩ := MM13.rowLen
    obtain ⟨gb, rfl⟩ := MM13.rowSome hgp
    obtain ⟨rg, MMf, hgf, hgcap, _, hgsz, _⟩ := MM13.freezeW
    have MMh : MemS (fun k => k < w0.heap.size ∧ ∀ x ∈ (g, Obj.cells (cn .u64 (qminB M) ++ rest0) 71) :: O, x.1 ≠ k) w0 wd13 ((gb, .cells ((cn .u64 (gleB (gsz M) M)) ++ rg) 71) :: (g, .cells ((cn .u64 (qminB (M / 10000000000000000000 ^ (gsz M)))) ++ rs) 71) :: O) [] := MMf
    refine wp_seq (rg_seq FF13 MMh [o_, o_, w_ 3] [3, 2, 0, 20] (fun Kt => ¬ ((gsz M) = 0) ∧ Kt [(20, .bool false), (3, .slice (some ⟨gb, 0, none⟩) (gsz M) gc), (2, .string (bs [])), (0, trimV (some ⟨g, 0, none⟩) (M / 10000000000000000000 ^ (gsz M)) cap)] ((gb, .cells ((cn .u64 (gleB (gsz M) M)) ++ rg) 71) :: (g, .cells ((cn .u64 (qminB (M / 10000000000000000000 ^ (gsz M)))) ++ rs) 71) :: O)) (by kernel_rfl) (fun _ => by kernel_rfl) (⟨(by omega), fun ac14 wd14 FF14 MM14 => then_n ?_⟩))
    refine wp_cond_false (FF14.ev 0 rfl) ?_
    refine wp_skip ?_
    refine then_n ?_
    refine wp_seq (rg_seq FF14 MM14 [o_, o_, w_ 1, o_] [3, 2, 0, 4] (fun Kt => 1 ≤ (gsz M) ∧ (gsz M) - 1 < 9223372036854775808 ∧ Kt [(4, .int .i64 ((gsz M) - 1 : Nat)), (3, .slice (some ⟨gb, 0, none⟩) (gsz M) gc), (2, .string (bs [])), (0, trimV (some ⟨g, 0, none⟩) (M / 10000000000000000000 ^ (gsz M)) cap)] ((gb, .cells ((cn .u64 (gleB (gsz M) M)) ++ rg) 71) :: (g, .cells ((cn .u64 (qminB (M / 10000000000000000000 ^ (gsz M)))) ++ rs) 71) :: O)) (by kernel_rfl) (fun _ => by kernel_rfl) (⟨(by omega), (by omega), fun ac15 wd15 FF15 MM15 => then_n ?_⟩))
    refine wp_seq (rg_seq FF15 MM15 [o_] [4, 3, 2, 0, 5] (fun Kt => ∀ bd, Kt [(5, .pointer (some ⟨bd, 0, none⟩)), (4, .int .i64 ((gsz M) - 1 : Nat)), (3, .slice (some ⟨gb, 0, none⟩) (gsz M) gc), (2, .string (bs [])), (0, trimV (some ⟨g, 0, none⟩) (M / 10000000000000000000 ^ (gsz M)) cap)] ((bd, .cells (#[.pointer none, .slice none 0 0] : Array Value) 85) :: (gb, .cells ((cn .u64 (gleB (gsz M) M)) ++ rg) 71) :: (g, .cells ((cn .u64 (qminB (M / 10000000000000000000 ^ (gsz M)))) ++ rs) 71) :: O)) (by kernel_rfl) (fun _ => by kernel_rfl) (fun bd => fun ac16 wd16 FF16 MM16 => then_n ?_))
    have MMi := MM16.rowNil 5 1
    have MMj : MemS (fun k => k < w0.heap.size ∧ ∀ x ∈ (g, Obj.cells (cn .u64 (qminB M) ++ rest0) 71) :: O, x.1 ≠ k) w0 wd16 ((bd, .cells (#[.pointer none, .slice none 0 0] : Array Value) 85) :: (gb, .cells ((cn .u64 (gleB (gsz M) M)) ++ rg) 71) :: (g, .cells ((cn .u64 (qminB (M / 10000000000000000000 ^ (gsz M)))) ++ rs) 71) :: O) [(.slice none 0 0, 5, 1, 0, (bcells []))] := MMi
    refine wp_seq (wp_region_list ?_)
    refine rg_part 5 FF16 MMj [o_, o_, w_ 1, l_ 1 (.int .u64 (M / 10000000000000000000 ^ (gsz M - 1) % 10000000000000000000 : Nat)), u_ 1 (.string (bs (decN (M / 10000000000000000000 ^ (gsz M - 1) % 10000000000000000000))))] [5, 4, 3, 2, 0, 28] (fun Kt => ((gsz M) - 1) < (gsz M) ∧ gb = gb ∧ ((cn .u64 (gleB (gsz M) M)) ++ rg)[(gsz M) - 1]? = some (.int .u64 (M / 10000000000000000000 ^ (gsz M - 1) % 10000000000000000000 : Nat)) ∧ CallP Tryd.prog 45 [.int .u64 (M / 10000000000000000000 ^ (gsz M - 1) % 10000000000000000000 : Nat), .int .i64 (10 : Nat)] ((bd, .cells (#[.pointer none, .slice none 0 0] : Array Value) 85) :: (gb, .cells ((cn .u64 (gleB (gsz M) M)) ++ rg) 71) :: (g, .cells ((cn .u64 (qminB (M / 10000000000000000000 ^ (gsz M)))) ++ rs) 71) :: O) (.string (bs (decN (M / 10000000000000000000 ^ (gsz M - 1) % 10000000000000000000)))) ∧ Kt [(28, .string (bs (decN (M / 10000000000000000000 ^ (gsz M - 1) % 10000000000000000000)))), (5, .pointer (some ⟨bd, 0, none⟩)), (4, .int .i64 ((gsz M) - 1 : Nat)), (3, .slice (some ⟨gb, 0, none⟩) (gsz M) gc), (2, .string (bs [])), (0, trimV (some ⟨g, 0, none⟩) (M / 10000000000000000000 ^ (gsz M)) cap)] ((bd, .cells (#[.pointer none, .slice none 0 0] : Array Value) 85) :: (gb, .cells ((cn .u64 (gleB (gsz M) M)) ++ rg) 71) :: (g, .cells ((cn .u64 (qminB (M / 10000000000000000000 ^ (gsz M)))) ++ rs) 71) :: O)) (by kernel_rfl) (fun _ => by kernel_rfl) (⟨(by omega), rfl, ((cat_l (by rw [cn_size, gleB_len]; omega)).trans ((cn_get _ _ _ (by rw [gleB_len]; omega)).trans (congrArg some (vI (gleB_get (by omega)))))), ⟨en_fmtu, fun w Hw => fmtu_any (M / 10000000000000000000 ^ (gsz M - 1) % 10000000000000000000) (Nat.lt_trans (Nat.mod_lt _ (by decide)) (by decide)) w (hT.at (Has.tl (Has.tl (Has.tl Hw))))⟩, fun ac17 wd17 FF17 MM17 => ?_⟩)
    have hbd := decN_bd (M / 10000000000000000000 ^ (gsz M - 1) % 10000000000000000000)
    have hq2 : qsz (M / 10000000000000000000 ^ (gsz M - 1) % 10000000000000000000) ≤ 1 := qsz_le (Nat.lt_trans (Nat.mod_lt _ (by decide)) (by decide))
    refine st_callM [5, 4, 3, 2, 0, 29] FF17 (d := 29) en_bwrite rfl rfl (bwrite_any (.inl rfl) (decN_lt _) (by omega) _ MM17) rfl (by kernel_rfl) (by decide) fun ac18 wd18 (FF18 : Fr 49 ac18 [(29, .tuple #[.int .i64 ((decN (M / 10000000000000000000 ^ (gsz M - 1) % 10000000000000000000)).length : Nat), .nilIface]), (5, .pointer (some ⟨bd, 0, none⟩)), (4, .int .i64 ((gsz M) - 1 : Nat)), (3, .slice (some ⟨gb, 0, none⟩) (gsz M) gc), (2, .string (bs [])), (0, trimV (some ⟨g, 0, none⟩) (M / 10000000000000000000 ^ (gsz M)) cap)]) hr19 => ?_
    obtain ⟨rq20, rc21, MM18⟩ := hr19
    have MM18 : MemS (fun k => k < w0.heap.size ∧ ∀ x ∈ (g, Obj.cells (cn .u64 (qminB M) ++ rest0) 71) :: O, x.1 ≠ k) w0 wd18 ((bd, .cells (#[.pointer (some ⟨bd, 0, none⟩), .slice rq20 (0 + (decN (M / 10000000000000000000 ^ (gsz M - 1) % 10000000000000000000)).length) rc21] : Array Value) 85) :: (gb, .cells ((cn .u64 (gleB (gsz M) M)) ++ rg) 71) :: (g, .cells ((cn .u64 (qminB (M / 10000000000000000000 ^ (gsz M)))) ++ rs) 71) :: O) [(.slice rq20 (0 + (decN (M / 10000000000000000000 ^ (gsz M - 1) % 10000000000000000000)).length) rc21, 5, 1, (0 + (decN (M / 10000000000000000000 ^ (gsz M - 1) % 10000000000000000000)).length), ((bcells []) ++ bcells (decN (M / 10000000000000000000 ^ (gsz M - 1) % 10000000000000000000))))] := MM18
    refine wpl_nil (then_n ?_)
    have eT : M / 10000000000000000000 ^ (gsz M - 1) % 10000000000000000000 = M / 10000000000000000000 ^ (gsz M - 1) := Nat.mod_eq_of_lt (g_top h0)
    have MMk : MemS (fun k => k < w0.heap.size ∧ ∀ x ∈ (g, Obj.cells (cn .u64 (qminB M) ++ rest0) 71) :: O, x.1 ≠ k) w0 wd18 ((bd, .cells (#[.pointer (some ⟨bd, 0, none⟩), .slice rq20 (decN (M / 10000000000000000000 ^ (gsz M - 1))).length rc21] : Array Value) 85) :: (gb, .cells ((cn .u64 (gleB (gsz M) M)) ++ rg) 71) :: (g, .cells ((cn .u64 (qminB (M / 10000000000000000000 ^ (gsz M)))) ++ rs) 71) :: O) [(.slice rq20 (decN (M / 10000000000000000000 ^ (gsz M - 1))).length rc21, 5, 1, (decN (M / 10000000000000000000 ^ (gsz M - 1))).length, (bcells (decN (M / 10000000000000000000 ^ (gsz M - 1)))))] := by have h9 := MM18; rw [Nat.zero_add, bcells_app, List.nil_append, eT] at h9; exact h9
    refine wp_seq ?_
    refine wp_seq (rg_seq FF18 MMk [o_, u_ 4 (.int .i64 (((gsz M - 1 : Nat) : Int) - 1 : Int)), o_] [5, 4, 3, 2, 0, 6] (fun Kt => -(9223372036854775808 : Int) ≤ (((gsz M) - 1 : Nat) : Int) - ((1 : Nat) : Int) ∧ (((gsz M) - 1 : Nat) : Int) - ((1 : Nat) : Int) < (9223372036854775808 : Nat) ∧ Value.int .i64 ((((gsz M) - 1 : Nat) : Int) - ((1 : Nat) : Int) : Int) = .int .i64 (((gsz M - 1 : Nat) : Int) - 1 : Int) ∧ Kt [(6, .int .i64 (((gsz M - 1 : Nat) : Int) - 1 : Int)), (5, .pointer (some ⟨bd, 0, none⟩)), (4, .int .i64 ((gsz M) - 1 : Nat)), (3, .slice (some ⟨gb, 0, none⟩) (gsz M) gc), (2, .string (bs [])), (0, trimV (some ⟨g, 0, none⟩) (M / 10000000000000000000 ^ (gsz M)) cap)] ((bd, .cells (#[.pointer (some ⟨bd, 0, none⟩), .slice rq20 (decN (M / 10000000000000000000 ^ (gsz M - 1))).length rc21] : Array Value) 85) :: (gb, .cells ((cn .u64 (gleB (gsz M) M)) ++ rg) 71) :: (g, .cells ((cn .u64 (qminB (M / 10000000000000000000 ^ (gsz M)))) ++ rs) 71) :: O)) (by kernel_rfl) (fun _ => by kernel_rfl) (⟨(by omega), (by omega), (vZ (by omega)), fun ac22 wd22 FF22 MM22 => then_n ?_⟩))
    refine wp_for2 (fun a' w' => ∃ j : Nat, ∃ q : Option Addr, ∃ c : Nat, j < gsz M ∧ Fr 49 a' [(6, .int .i64 (((j : Nat) : Int) - 1 : Int)), (5, .pointer (some ⟨bd, 0, none⟩)), (4, .int .i64 ((gsz M) - 1 : Nat)), (3, .slice (some ⟨gb, 0, none⟩) (gsz M) gc), (2, .string (bs [])), (0, trimV (some ⟨g, 0, none⟩) (M / 10000000000000000000 ^ (gsz M)) cap)] ∧ MemS (fun k => k < w0.heap.size ∧ ∀ x ∈ (g, Obj.cells (cn .u64 (qminB M) ++ rest0) 71) :: O, x.1 ≠ k) w0 w' ((bd, .cells (#[.pointer (some ⟨bd, 0, none⟩), .slice q (decN (M / 10000000000000000000 ^ j)).length c] : Array Value) 85) :: (gb, .cells ((cn .u64 (gleB (gsz M) M)) ++ rg) 71) :: (g, .cells ((cn .u64 (qminB (M / 10000000000000000000 ^ (gsz M)))) ++ rs) 71) :: O) [(.slice q (decN (M / 10000000000000000000 ^ j)).length c, 5, 1, (decN (M / 10000000000000000000 ^ j)).length, (bcells (decN (M / 10000000000000000000 ^ j))))]) (fun a' _ => (cnt 6 a' + 1).toNat) ⟨gsz M - 1, rq20, rc21, by omega, FF22.pick [0, 1, 2, 3, 4, 5], MM22⟩ ?_
    rintro ac23 wd23 ⟨j, q, c, hj, FF23, MM23⟩
    have hc := cnt_of (FF23.get 0 rfl)
    refine rg_seq FF23 MM23 [o_, w_ 4] [6, 5, 4, 3, 2, 0, 33] (fun Kt => Kt [(33, .bool (decide ((((j : Nat) : Int) - 1) ≥ ((0 : Nat) : Int)))), (6, .int .i64 (((j : Nat) : Int) - 1 : Int)), (5, .pointer (some ⟨bd, 0, none⟩)), (4, .int .i64 ((gsz M) - 1 : Nat)), (3, .slice (some ⟨gb, 0, none⟩) (gsz M) gc), (2, .string (bs [])), (0, trimV (some ⟨g, 0, none⟩) (M / 10000000000000000000 ^ (gsz M)) cap)] ((bd, .cells (#[.pointer (some ⟨bd, 0, none⟩), .slice q (decN (M / 10000000000000000000 ^ j)).length c] : Array Value) 85) :: (gb, .cells ((cn .u64 (gleB (gsz M) M)) ++ rg) 71) :: (g, .cells ((cn .u64 (qminB (M / 10000000000000000000 ^ (gsz M)))) ++ rs) 71) :: O)) (by kernel_rfl) (fun _ => by kernel_rfl) (fun ac24 wd24 FF24 MM24 => ?_)
    by_cases hlt : (((j : Nat) : Int) - 1) ≥ ((0 : Nat) : Int)
    · skip
      refine then_n (.inl ⟨(FF24.ev 0 rfl).trans (dec_t hlt), ?_⟩)
      obtain ⟨j, rfl⟩ : ∃ z, j = z + 1 := ⟨j - 1, by omega⟩
      have hne := g_less (M := M) (i := j + 1) (by omega)
      have hbd := decN_bd (M / 10000000000000000000 ^ (j + 1))
      have hbs : qsz (M / 10000000000000000000 ^ (j + 1)) ≤ qsz M := qsz_mono (Nat.div_le_self _ _)
      obtain ⟨_, hp19⟩ := decN_pad (r := M / 10000000000000000000 ^ j % 10000000000000000000) (Nat.mod_lt _ (by decide))
      have hgr := dec_group hne
      refine wp_seq (rg_seq FF24 MM24 [o_, t_ (.int .i64 (j : Nat)), w_ 1, l_ 1 (.int .u64 (M / 10000000000000000000 ^ j % 10000000000000000000 : Nat)), u_ 1 (.string (bs (decN (M / 10000000000000000000 ^ j % 10000000000000000000)))), o_] [6, 5, 4, 3, 2, 0, 7] (fun Kt => Value.int .i64 ((((j + 1) : Nat) : Int) - 1 : Int) = .int .i64 (j : Nat) ∧ j < (gsz M) ∧ gb = gb ∧ ((cn .u64 (gleB (gsz M) M)) ++ rg)[j]? = some (.int .u64 (M / 10000000000000000000 ^ j % 10000000000000000000 : Nat)) ∧ CallP Tryd.prog 45 [.int .u64 (M / 10000000000000000000 ^ j % 10000000000000000000 : Nat), .int .i64 (10 : Nat)] ((bd, .cells (#[.pointer (some ⟨bd, 0, none⟩), .slice q (decN (M / 10000000000000000000 ^ (j + 1))).length c] : Array Value) 85) :: (gb, .cells ((cn .u64 (gleB (gsz M) M)) ++ rg) 71) :: (g, .cells ((cn .u64 (qminB (M / 10000000000000000000 ^ (gsz M)))) ++ rs) 71) :: O) (.string (bs (decN (M / 10000000000000000000 ^ j % 10000000000000000000)))) ∧ Kt [(7, .string (bs (decN (M / 10000000000000000000 ^ j % 10000000000000000000)))), (6, .int .i64 ((((j + 1) : Nat) : Int) - 1 : Int)), (5, .pointer (some ⟨bd, 0, none⟩)), (4, .int .i64 ((gsz M) - 1 : Nat)), (3, .slice (some ⟨gb, 0, none⟩) (gsz M) gc), (2, .string (bs [])), (0, trimV (some ⟨g, 0, none⟩) (M / 10000000000000000000 ^ (gsz M)) cap)] ((bd, .cells (#[.pointer (some ⟨bd, 0, none⟩), .slice q (decN (M / 10000000000000000000 ^ (j + 1))).length c] : Array Value) 85) :: (gb, .cells ((cn .u64 (gleB (gsz M) M)) ++ rg) 71) :: (g, .cells ((cn .u64 (qminB (M / 10000000000000000000 ^ (gsz M)))) ++ rs) 71) :: O)) (by kernel_rfl) (fun _ => by kernel_rfl) (⟨(vZ (by omega)), (by omega), rfl, ((cat_l (by rw [cn_size, gleB_len]; omega)).trans ((cn_get _ _ _ (by rw [gleB_len]; omega)).trans (congrArg some (vI (gleB_get (by omega)))))), ⟨en_fmtu, fun w Hw => fmtu_any (M / 10000000000000000000 ^ j % 10000000000000000000) (Nat.lt_trans (Nat.mod_lt _ (by decide)) (by decide)) w (hT.at (Has.tl (Has.tl (Has.tl Hw))))⟩, fun ac25 wd25 FF25 MM25 => then_n ?_⟩))
      refine wp_seq (wp_region_list ?_)
      refine rg_part 4 FF25 MM25 [o_, t_ (.int .i64 ((decN (M / 10000000000000000000 ^ j % 10000000000000000000)).length : Nat)), w_ 1, t_ (.string (bs (List.replicate (19 - ((decN (M / 10000000000000000000 ^ j % 10000000000000000000)).length)) 48)))] [7, 6, 5, 4, 3, 2, 0, 44] (fun Kt => Value.int .i64 ((bs (decN (M / 10000000000000000000 ^ j % 10000000000000000000))).size : Nat) = .int .i64 ((decN (M / 10000000000000000000 ^ j % 10000000000000000000)).length : Nat) ∧ ((decN (M / 10000000000000000000 ^ j % 10000000000000000000)).length) ≤ 19 ∧ 19 - ((decN (M / 10000000000000000000 ^ j % 10000000000000000000)).length) < 9223372036854775808 ∧ CallP Tryd.prog 46 [.string (bs [48]), .int .i64 (19 - ((decN (M / 10000000000000000000 ^ j % 10000000000000000000)).length) : Nat)] [] (.string (bs (List.replicate (19 - ((decN (M / 10000000000000000000 ^ j % 10000000000000000000)).length)) 48))) ∧ Kt [(44, .string (bs (List.replicate (19 - ((decN (M / 10000000000000000000 ^ j % 10000000000000000000)).length)) 48))), (7, .string (bs (decN (M / 10000000000000000000 ^ j % 10000000000000000000)))), (6, .int .i64 ((((j + 1) : Nat) : Int) - 1 : Int)), (5, .pointer (some ⟨bd, 0, none⟩)), (4, .int .i64 ((gsz M) - 1 : Nat)), (3, .slice (some ⟨gb, 0, none⟩) (gsz M) gc), (2, .string (bs [])), (0, trimV (some ⟨g, 0, none⟩) (M / 10000000000000000000 ^ (gsz M)) cap)] ((bd, .cells (#[.pointer (some ⟨bd, 0, none⟩), .slice q (decN (M / 10000000000000000000 ^ (j + 1))).length c] : Array Value) 85) :: (gb, .cells ((cn .u64 (gleB (gsz M) M)) ++ rg) 71) :: (g, .cells ((cn .u64 (qminB (M / 10000000000000000000 ^ (gsz M)))) ++ rs) 71) :: O)) (by kernel_rfl) (fun _ => by kernel_rfl) (⟨(vI (bs_size _)), hp19, (by omega), (callP_of en_repeat (repeat_any (19 - ((decN (M / 10000000000000000000 ^ j % 10000000000000000000)).length)) (by omega)) _), fun ac26 wd26 FF26 MM26 => ?_⟩)
      refine st_callM [7, 6, 5, 4, 3, 2, 0, 45] FF26 (d := 45) en_bwrite rfl rfl (bwrite_any (.inr rfl) (rep48_lt _) (by rw [List.length_replicate]; omega) _ MM26) rfl (by kernel_rfl) (by decide) fun ac27 wd27 (FF27 : Fr 49 ac27 [(45, .tuple #[.int .i64 ((List.replicate (19 - (decN (M / 10000000000000000000 ^ j % 10000000000000000000)).length) 48).length : Nat), .nilIface]), (7, .string (bs (decN (M / 10000000000000000000 ^ j % 10000000000000000000)))), (6, .int .i64 ((((j + 1) : Nat) : Int) - 1 : Int)), (5, .pointer (some ⟨bd, 0, none⟩)), (4, .int .i64 ((gsz M) - 1 : Nat)), (3, .slice (some ⟨gb, 0, none⟩) (gsz M) gc), (2, .string (bs [])), (0, trimV (some ⟨g, 0, none⟩) (M / 10000000000000000000 ^ (gsz M)) cap)]) hr28 => ?_
      obtain ⟨rq29, rc30, MM27⟩ := hr28
      have MM27 : MemS (fun k => k < w0.heap.size ∧ ∀ x ∈ (g, Obj.cells (cn .u64 (qminB M) ++ rest0) 71) :: O, x.1 ≠ k) w0 wd27 ((bd, .cells (#[.pointer (some ⟨bd, 0, none⟩), .slice rq29 ((decN (M / 10000000000000000000 ^ (j + 1))).length + (List.replicate (19 - (decN (M / 10000000000000000000 ^ j % 10000000000000000000)).length) 48).length) rc30] : Array Value) 85) :: (gb, .cells ((cn .u64 (gleB (gsz M) M)) ++ rg) 71) :: (g, .cells ((cn .u64 (qminB (M / 10000000000000000000 ^ (gsz M)))) ++ rs) 71) :: O) [(.slice rq29 ((decN (M / 10000000000000000000 ^ (j + 1))).length + (List.replicate (19 - (decN (M / 10000000000000000000 ^ j % 10000000000000000000)).length) 48).length) rc30, 5, 1, ((decN (M / 10000000000000000000 ^ (j + 1))).length + (List.replicate (19 - (decN (M / 10000000000000000000 ^ j % 10000000000000000000)).length) 48).length), ((bcells (decN (M / 10000000000000000000 ^ (j + 1)))) ++ bcells (List.replicate (19 - (decN (M / 10000000000000000000 ^ j % 10000000000000000000)).length) 48)))] := MM27
      refine wpl_nil (then_n ?_)
      refine wp_region_list ?_
      refine rg_part 1 FF27 MM27 [o_] [7, 6, 5, 4, 3, 2, 0, 46] (fun Kt => Kt [(46, .string (bs (decN (M / 10000000000000000000 ^ j % 10000000000000000000)))), (7, .string (bs (decN (M / 10000000000000000000 ^ j % 10000000000000000000)))), (6, .int .i64 ((((j + 1) : Nat) : Int) - 1 : Int)), (5, .pointer (some ⟨bd, 0, none⟩)), (4, .int .i64 ((gsz M) - 1 : Nat)), (3, .slice (some ⟨gb, 0, none⟩) (gsz M) gc), (2, .string (bs [])), (0, trimV (some ⟨g, 0, none⟩) (M / 10000000000000000000 ^ (gsz M)) cap)] ((bd, .cells (#[.pointer (some ⟨bd, 0, none⟩), .slice rq29 ((decN (M / 10000000000000000000 ^ (j + 1))).length + (List.replicate (19 - (decN (M / 10000000000000000000 ^ j % 10000000000000000000)).length) 48).length) rc30] : Array Value) 85) :: (gb, .cells ((cn .u64 (gleB (gsz M) M)) ++ rg) 71) :: (g, .cells ((cn .u64 (qminB (M / 10000000000000000000 ^ (gsz M)))) ++ rs) 71) :: O)) (by kernel_rfl) (fun _ => by kernel_rfl) (fun ac31 wd31 FF31 MM31 => ?_)
      refine st_callM [7, 6, 5, 4, 3, 2, 0, 47] FF31 (d := 47) en_bwrite rfl rfl (bwrite_any (.inr rfl) (decN_lt _) (by rw [List.length_replicate]; omega) _ MM31) rfl (by kernel_rfl) (by decide) fun ac32 wd32 (FF32 : Fr 49 ac32 [(47, .tuple #[.int .i64 ((decN (M / 10000000000000000000 ^ j % 10000000000000000000)).length : Nat), .nilIface]), (7, .string (bs (decN (M / 10000000000000000000 ^ j % 10000000000000000000)))), (6, .int .i64 ((((j + 1) : Nat) : Int) - 1 : Int)), (5, .pointer (some ⟨bd, 0, none⟩)), (4, .int .i64 ((gsz M) - 1 : Nat)), (3, .slice (some ⟨gb, 0, none⟩) (gsz M) gc), (2, .string (bs [])), (0, trimV (some ⟨g, 0, none⟩) (M / 10000000000000000000 ^ (gsz M)) cap)]) hr33 => ?_
      obtain ⟨rq34, rc35, MM32⟩ := hr33
      have MM32 : MemS (fun k => k < w0.heap.size ∧ ∀ x ∈ (g, Obj.cells (cn .u64 (qminB M) ++ rest0) 71) :: O, x.1 ≠ k) w0 wd32 ((bd, .cells (#[.pointer (some ⟨bd, 0, none⟩), .slice rq34 (((decN (M / 10000000000000000000 ^ (j + 1))).length + (List.replicate (19 - (decN (M / 10000000000000000000 ^ j % 10000000000000000000)).length) 48).length) + (decN (M / 10000000000000000000 ^ j % 10000000000000000000)).length) rc35] : Array Value) 85) :: (gb, .cells ((cn .u64 (gleB (gsz M) M)) ++ rg) 71) :: (g, .cells ((cn .u64 (qminB (M / 10000000000000000000 ^ (gsz M)))) ++ rs) 71) :: O) [(.slice rq34 (((decN (M / 10000000000000000000 ^ (j + 1))).length + (List.replicate (19 - (decN (M / 10000000000000000000 ^ j % 10000000000000000000)).length) 48).length) + (decN (M / 10000000000000000000 ^ j % 10000000000000000000)).length) rc35, 5, 1, (((decN (M / 10000000000000000000 ^ (j + 1))).length + (List.replicate (19 - (decN (M / 10000000000000000000 ^ j % 10000000000000000000)).length) 48).length) + (decN (M / 10000000000000000000 ^ j % 10000000000000000000)).length), (((bcells (decN (M / 10000000000000000000 ^ (j + 1)))) ++ bcells (List.replicate (19 - (decN (M / 10000000000000000000 ^ j % 10000000000000000000)).length) 48)) ++ bcells (decN (M / 10000000000000000000 ^ j % 10000000000000000000))))] := MM32
      refine wpl_nil ?_
      refine inb_n (then_n ?_)
      refine rg_seq FF32 MM32 [o_, u_ 4 (.int .i64 (((j : Nat) : Int) - 1 : Int)), o_] [7, 6, 5, 4, 3, 2, 0] (fun Kt => -(9223372036854775808 : Int) ≤ ((((j + 1) : Nat) : Int) - 1) - ((1 : Nat) : Int) ∧ ((((j + 1) : Nat) : Int) - 1) - ((1 : Nat) : Int) < (9223372036854775808 : Nat) ∧ Value.int .i64 (((((j + 1) : Nat) : Int) - 1) - ((1 : Nat) : Int) : Int) = .int .i64 (((j : Nat) : Int) - 1 : Int) ∧ Kt [(6, .int .i64 (((j : Nat) : Int) - 1 : Int)), (7, .string (bs (decN (M / 10000000000000000000 ^ j % 10000000000000000000)))), (5, .pointer (some ⟨bd, 0, none⟩)), (4, .int .i64 ((gsz M) - 1 : Nat)), (3, .slice (some ⟨gb, 0, none⟩) (gsz M) gc), (2, .string (bs [])), (0, trimV (some ⟨g, 0, none⟩) (M / 10000000000000000000 ^ (gsz M)) cap)] ((bd, .cells (#[.pointer (some ⟨bd, 0, none⟩), .slice rq34 (((decN (M / 10000000000000000000 ^ (j + 1))).length + (List.replicate (19 - (decN (M / 10000000000000000000 ^ j % 10000000000000000000)).length) 48).length) + (decN (M / 10000000000000000000 ^ j % 10000000000000000000)).length) rc35] : Array Value) 85) :: (gb, .cells ((cn .u64 (gleB (gsz M) M)) ++ rg) 71) :: (g, .cells ((cn .u64 (qminB (M / 10000000000000000000 ^ (gsz M)))) ++ rs) 71) :: O)) (by kernel_rfl) (fun _ => by kernel_rfl) (⟨(by omega), (by omega), (vZ (by omega)), fun ac36 wd36 FF36 MM36 => ?_⟩)
      have hln : (((decN (M / 10000000000000000000 ^ (j + 1))).length + (List.replicate (19 - (decN (M / 10000000000000000000 ^ j % 10000000000000000000)).length) 48).length) + (decN (M / 10000000000000000000 ^ j % 10000000000000000000)).length) = (decN (M / 10000000000000000000 ^ j)).length := by rw [← hgr]; simp only [List.length_append]
      have MMo : MemS (fun k => k < w0.heap.size ∧ ∀ x ∈ (g, Obj.cells (cn .u64 (qminB M) ++ rest0) 71) :: O, x.1 ≠ k) w0 wd36 ((bd, .cells (#[.pointer (some ⟨bd, 0, none⟩), .slice rq34 (decN (M / 10000000000000000000 ^ j)).length rc35] : Array Value) 85) :: (gb, .cells ((cn .u64 (gleB (gsz M) M)) ++ rg) 71) :: (g, .cells ((cn .u64 (qminB (M / 10000000000000000000 ^ (gsz M)))) ++ rs) 71) :: O) [(.slice rq34 (decN (M / 10000000000000000000 ^ j)).length rc35, 5, 1, (decN (M / 10000000000000000000 ^ j)).length, (bcells (decN (M / 10000000000000000000 ^ j))))] := by have h9 := MM36; rw [bcells_app, bcells_app, hgr, hln] at h9; exact h9
      have hd := cnt_of (FF36.get 0 rfl)
      refine then_n ⟨⟨j, rq34, rc35, by omega, FF36.pick [0, 2, 3, 4, 5, 6], MMo⟩, ?_⟩
      rw [hc, hd]; omega
    · skip
      refine then_n (.inr ⟨(FF24.ev 0 rfl).trans (dec_f hlt), ?_⟩)
      obtain rfl : j = 0 := by omega
      refine then_n ?_
      refine wp_seq (wp_region_list ?_)
      refine st_callM [6, 5, 4, 3, 2, 0, 48] FF24 (d := 48) en_bstring rfl rfl (bstring_any (decN_lt _) (.inl (by rw [e0, decN_len h0]; exact dsz_pos h0)) _ MM24) rfl (by kernel_rfl) (by decide) fun ac37 wd37 (FF37 : Fr 49 ac37 [(48, .string (bs (decN (M / 10000000000000000000 ^ 0)))), (6, .int .i64 (((0 : Nat) : Int) - 1 : Int)), (5, .pointer (some ⟨bd, 0, none⟩)), (4, .int .i64 ((gsz M) - 1 : Nat)), (3, .slice (some ⟨gb, 0, none⟩) (gsz M) gc), (2, .string (bs [])), (0, trimV (some ⟨g, 0, none⟩) (M / 10000000000000000000 ^ (gsz M)) cap)]) hr38 => ?_
      have MM37 : MemS (fun k => k < w0.heap.size ∧ ∀ x ∈ (g, Obj.cells (cn .u64 (qminB M) ++ rest0) 71) :: O, x.1 ≠ k) w0 wd37 ((bd, .cells (#[.pointer (some ⟨bd, 0, none⟩), .slice q (decN (M / 10000000000000000000 ^ 0)).length c] : Array Value) 85) :: (gb, .cells ((cn .u64 (gleB (gsz M) M)) ++ rg) 71) :: (g, .cells ((cn .u64 (qminB (M / 10000000000000000000 ^ (gsz M)))) ++ rs) 71) :: O) [] := hr38
      refine rg_part 1 FF37 MM37 [o_] [6, 5, 4, 3, 2, 0] (fun Kt => Kt [(2, .string (bs (decN (M / 10000000000000000000 ^ 0)))), (6, .int .i64 (((0 : Nat) : Int) - 1 : Int)), (5, .pointer (some ⟨bd, 0, none⟩)), (4, .int .i64 ((gsz M) - 1 : Nat)), (3, .slice (some ⟨gb, 0, none⟩) (gsz M) gc), (0, trimV (some ⟨g, 0, none⟩) (M / 10000000000000000000 ^ (gsz M)) cap)] ((bd, .cells (#[.pointer (some ⟨bd, 0, none⟩), .slice q (decN (M / 10000000000000000000 ^ 0)).length c] : Array Value) 85) :: (gb, .cells ((cn .u64 (gleB (gsz M) M)) ++ rg) 71) :: (g, .cells ((cn .u64 (qminB (M / 10000000000000000000 ^ (gsz M)))) ++ rs) 71) :: O)) (by kernel_rfl) (fun _ => by kernel_rfl) (fun ac39 wd39 FF39 MM39 => ?_)
      refine wpl_nil (then_n ?_)
      refine wp_ret ?_
      repeat first | refine then_ret ?_ | refine inb_ret ?_
      exact (ret_fr FF39 0 Tryd.results39 rfl ⟨congrArg Ending.returned (by rw [e0]), _, MM39.turn (Has.tl H) 2 rfl (fun _ hx => List.mem_cons_of_mem _ (List.mem_cons_of_mem _ (List.mem_cons_of_mem _ (hx))))⟩)

end Go.Proofs.YtdeiodcfblldgaaDoor
namespace Go.Proofs.YtdeiodcfblldgaaDoor
open Go.RowKit

theorem MemS.addFresh {S : Nat → Prop} {w0 w w' : World} {L : Blks} {R : List Row} {g : Nat} {ob : Obj} (M : MemS S w0 w L R) (M' : MemS S w0 w' L R) (hb : w'.heap[g]? = some ob) (hg : w.heap.size ≤ g) : MemS S w0 w' ((g, ob) :: L) R :=
  M'.addBlk hb (fun x hx => by have := lt_of_block (Has.mem M.hasL hx); omega) (fun hs => by have := M.old g hs; have := M.size; omega) (fun r hr g' hg' => by have := (ownsRow_lt (M.rows r hr) hg').2; omega)
set_option maxRecDepth 100000 in
theorem digs_nil  (w0 : World) :
    Calls Tryd.prog 39 #[.slice none 0 0] w0 fun e w' => e = .returned (.string (bs [48])) ∧ Below w0.heap.size w0 w' := by
  refine enter_fr Tryd.func39 rfl Tryd.ntmps39 (by simp) fun ac (FF : Fr 49 ac [(0, .slice none 0 0)]) => ?_
  have MM := MemS.start w0
  refine wp_seq (rg_seq FF MM [o_] [0, 2] (fun Kt => Kt [(2, .string (bs [])), (0, .slice none 0 0)] []) (by kernel_rfl) (fun _ => by kernel_rfl) (fun ac1 wd1 FF1 MM1 => then_n ?_))
  refine wp_seq (rg_seq FF1 MM1 [o_] [2, 0, 3] (fun Kt => Kt [(3, .slice none 0 0), (2, .string (bs [])), (0, .slice none 0 0)] []) (by kernel_rfl) (fun _ => by kernel_rfl) (fun ac2 wd2 FF2 MM2 => then_n ?_))
  refine wp_seq ?_
  refine wp_for2w (fun a' w' => Fr 49 a' [(3, .slice none 0 0), (2, .string (bs [])), (0, .slice none 0 0)] ∧ MemS (fun k => k < w0.heap.size) w0 w' [] []) (fun a' _ => 0) ⟨FF2.pick [0, 1, 2], MM2⟩ ?_
  rintro ac3 wd3 ⟨FF3, MM3⟩
  refine rg_seq FF3 MM3 [o_, o_, w_ 3] [3, 2, 0, 10] (fun Kt => ¬ (0 > 0) ∧ Kt [(10, .bool false), (3, .slice none 0 0), (2, .string (bs [])), (0, .slice none 0 0)] []) (by kernel_rfl) (fun _ => by kernel_rfl) (⟨(by decide), fun ac4 wd4 FF4 MM4 => ?_⟩)
  refine then_n (.inr ⟨FF4.ev 0 rfl, ?_⟩)
  refine then_n ?_
  refine wp_seq ?_
  refine wp_seq (rg_seq FF4 MM4 [o_, o_, w_ 2] [3, 2, 0, 20] (fun Kt => 0 = 0 ∧ Kt [(20, .bool true), (3, .slice none 0 0), (2, .string (bs [])), (0, .slice none 0 0)] []) (by kernel_rfl) (fun _ => by kernel_rfl) (⟨(by decide), fun ac5 wd5 FF5 MM5 => then_n ?_⟩))
  refine wp_cond_true (FF5.ev 0 rfl) ?_
  refine wp_seq (rg_seq FF5 MM5 [o_] [3, 2, 0] (fun Kt => Kt [(2, .string (bs [48])), (3, .slice none 0 0), (0, .slice none 0 0)] []) (by kernel_rfl) (fun _ => by kernel_rfl) (fun ac6 wd6 FF6 MM6 => then_n ?_))
  refine wp_ret ?_
  repeat first | refine then_ret ?_ | refine inb_ret ?_
  exact (ret_fr FF6 0 Tryd.results39 rfl ⟨rfl, MM6.below⟩)
set_option maxRecDepth 100000 in
theorem ntext_zero (O : Blks) (hD : Distinct O) (M : Nat) (x : Value) (hM : NatO O (nv M x) M) (hs : qsz M < 1000000) (h0 : M = 0) (w0 : World) (H : Has w0 O) :
    Calls Tryd.prog 27 #[.agg #[nv M x]] w0 fun e w' => e = .returned (.string (bs (decN M))) ∧ Below w0.heap.size w0 w' := by
  refine enter_fr Tryd.func27 rfl Tryd.ntmps27 (by simp) fun ac (FF : Fr 7 ac [(0, .agg (#[nv M x] : Array Value))]) => ?_
  have MM : MemS (fun k => k < w0.heap.size ∧ ∀ x ∈ O, x.1 ≠ k) w0 w0 O [] := MemS.startN H hD
  refine wp_seq (rg_seq FF MM [o_, o_] [1, 2] (fun Kt => ∀ ba, Kt [(2, .string (bs [])), (1, .pointer (some ⟨ba, 0, none⟩))] ((ba, .cells (#[nv M x] : Array Value) 49) :: O)) (by kernel_rfl) (fun _ => by kernel_rfl) (fun ba => fun ac1 wd1 FF1 MM1 => then_n ?_))
  refine wp_seq (wp_region_list ?_)
  refine rg_part 2 FF1 MM1 [o_, l_ 0 (nv M x)] [2, 4] (fun Kt => ba = ba ∧ (#[nv M x] : Array Value)[0]? = some (nv M x) ∧ Kt [(4, nv M x), (2, .string (bs []))] ((ba, .cells (#[nv M x] : Array Value) 49) :: O)) (by kernel_rfl) (fun _ => by kernel_rfl) (⟨rfl, rfl, fun ac2 wd2 FF2 MM2 => ?_⟩)
  refine st_callE [2, 5] FF2 (d := 5) (mk := fun v => nv M v) en_clone rfl rfl (clone_any M x hs _ (hM.at (Has.tl MM2.hasL))) rfl (by kernel_rfl) (by decide) fun ac4 wd4 lv3 (FF4 : Fr 7 ac4 [(5, nv M lv3), (2, .string (bs []))]) hr5 => ?_
  obtain ⟨hB, hcl⟩ := hr5
  have MM6 := MM2.keep hB
  obtain ⟨_, hp, hcp⟩ := hcl.resolve_right (fun h => h.1 h0)
  rw [show nv M lv3 = .slice none 0 0 by rw [nv, hp, hcp, h0]; rfl] at FF4
  refine rg_part 2 FF4 MM6 [t_ (.string (bs (decN M))), o_] [2] (fun Kt => CallP Tryd.prog 39 [.slice none 0 0] [] (.string (bs (decN M))) ∧ Kt [(2, .string (bs (decN M)))] ((ba, .cells (#[nv M x] : Array Value) 49) :: O)) (by kernel_rfl) (fun _ => by kernel_rfl) (⟨(callP_of en_digs (fun w => by have h7 := digs_nil w; rw [h0]; exact h7) _), fun ac7 wd7 FF7 MM7 => ?_⟩)
  refine wpl_nil (then_n ?_)
  refine wp_ret ?_
  repeat first | refine then_ret ?_ | refine inb_ret ?_
  exact (ret_fr FF7 0 Tryd.results27 rfl ⟨rfl, MM7.belowN H (fun _ hx => List.mem_cons_of_mem _ (hx))⟩)
set_option maxRecDepth 100000 in
theorem ntext_pos (O : Blks) (hD : Distinct O) (M : Nat) (x : Value) (hM : NatO O (nv M x) M) (hs : qsz M < 1000000) (hT : TabO O) (h0 : M ≠ 0) (w0 : World) (H : Has w0 O) :
    Calls Tryd.prog 27 #[.agg #[nv M x]] w0 fun e w' => e = .returned (.string (bs (decN M))) ∧ Below w0.heap.size w0 w' := by
  refine enter_fr Tryd.func27 rfl Tryd.ntmps27 (by simp) fun ac (FF : Fr 7 ac [(0, .agg (#[nv M x] : Array Value))]) => ?_
  have MM : MemS (fun k => k < w0.heap.size ∧ ∀ x ∈ O, x.1 ≠ k) w0 w0 O [] := MemS.startN H hD
  refine wp_seq (rg_seq FF MM [o_, o_] [1, 2] (fun Kt => ∀ ba, Kt [(2, .string (bs [])), (1, .pointer (some ⟨ba, 0, none⟩))] ((ba, .cells (#[nv M x] : Array Value) 49) :: O)) (by kernel_rfl) (fun _ => by kernel_rfl) (fun ba => fun ac1 wd1 FF1 MM1 => then_n ?_))
  refine wp_seq (wp_region_list ?_)
  refine rg_part 2 FF1 MM1 [o_, l_ 0 (nv M x)] [2, 4] (fun Kt => ba = ba ∧ (#[nv M x] : Array Value)[0]? = some (nv M x) ∧ Kt [(4, nv M x), (2, .string (bs []))] ((ba, .cells (#[nv M x] : Array Value) 49) :: O)) (by kernel_rfl) (fun _ => by kernel_rfl) (⟨rfl, rfl, fun ac2 wd2 FF2 MM2 => ?_⟩)
  refine st_callE [2, 5] FF2 (d := 5) (mk := fun v => nv M v) en_clone rfl rfl (clone_any M x hs _ (hM.at (Has.tl MM2.hasL))) rfl (by kernel_rfl) (by decide) fun ac4 wd4 lv3 (FF4 : Fr 7 ac4 [(5, nv M lv3), (2, .string (bs []))]) hr5 => ?_
  obtain ⟨hB, hcl⟩ := hr5
  have MM6 := MM2.keep hB
  obtain ⟨_, g, rest, hp, hg, hgb, hsz, hmx⟩ := hcl.resolve_left (fun h => h0 h.1)
  rw [show nv M lv3 = .slice (some ⟨g, 0, none⟩) (qsz M) (cOf lv3) by rw [nv, hp]] at FF4
  have MMg : MemS (fun k => k < w0.heap.size ∧ ∀ x ∈ O, x.1 ≠ k) w0 wd4 ((g, .cells (cn .u64 (qminB M) ++ rest) 71) :: (ba, .cells (#[nv M x] : Array Value) 49) :: O) [] := MM2.addFresh MM6 hgb hg
  refine st_callM [2, 6] FF4 (d := 6) en_digs rfl rfl (digs_main g (cOf lv3) M rest O hT h0 hsz hs _ (MMg.dropAt 1).hasL (distinct_of (apart_iff.1 (MMg.dropAt 1).apart))) rfl (by kernel_rfl) (by decide) fun ac7 wd7 (FF7 : Fr 7 ac7 [(6, .string (bs (decN M))), (2, .string (bs []))]) hr8 => ?_
  obtain ⟨ob9, ht9⟩ := hr8
  have MM7 : MemS (fun k => k < w0.heap.size ∧ ∀ x ∈ O, x.1 ≠ k) w0 wd7 ((g, ob9) :: (ba, .cells (#[nv M x] : Array Value) 49) :: O) [] := MMg.turned ht9
  refine rg_part 1 FF7 MM7 [o_] [2] (fun Kt => Kt [(2, .string (bs (decN M)))] ((g, ob9) :: (ba, .cells (#[nv M x] : Array Value) 49) :: O)) (by kernel_rfl) (fun _ => by kernel_rfl) (fun ac9 wd9 FF9 MM9 => ?_)
  refine wpl_nil (then_n ?_)
  refine wp_ret ?_
  repeat first | refine then_ret ?_ | refine inb_ret ?_
  exact (ret_fr FF9 0 Tryd.results27 rfl ⟨rfl, MM9.belowN H (fun _ hx => List.mem_cons_of_mem _ (List.mem_cons_of_mem _ (hx)))⟩)
theorem ntext_any (M : Nat) (x : Value) (hs : qsz M < 1000000) (w : World) (hT : TabIn w) (hM : NatIn w (nv M x) M) : Calls Tryd.prog 27 #[.agg #[nv M x]] w fun e w' => e = .returned (.string (bs (decN M))) ∧ Below w.heap.size w w' := by
  obtain ⟨O1, g1, g2, g3⟩ := tab_O hT
  obtain ⟨O, h1, h2, h3, h4⟩ := nats_O [(nv M x, M)] (fun y hy => by rw [List.mem_singleton] at hy; subst hy; exact hM) O1 g1 g2
  by_cases h0 : M = 0
  · exact ntext_zero O (distinct_of h2) M x (h3.get 0 rfl) hs h0 w h1
  · exact ntext_pos O (distinct_of h2) M x (h3.get 0 rfl) hs (g3.mono h4) h0 w h1

end Go.Proofs.YtdeiodcfblldgaaDoor
namespace Go.Proofs.YtdeiodcfblldgaaDoor
open Go.RowKit
section
variable {P : Program} {ops : Array Oper} {a : Act} {w0 w w' : World} {Q : Exit → Act → World → Prop} {n : Nat} {l : Slots} {L : Blks} {S : Nat → Prop} {R : List Row} {o : Oper}
theorem mvV {x : Operand} {v : Value} (ho : o.op = .move x) (hx : evO l x = some v) : RunV P l L o v := fun ρ w A _ => by
  simp only [execOp, ho, A x _ hx, Sem.run_pure]
theorem lenV {x : Operand} {t e : TypeId} {p : Option Addr} {m c : Nat} (ho : o.op = .call ⟨.builtin .len, #[x], #[t]⟩) (hx : evO l x = some (.slice p m c)) (ht : P.underlying t = some (.slice e)) : RunV P l L o (.int .i64 (m : Nat)) := fun ρ w A _ => by
  have h3 := A x _ hx
  have hl := run_len (P := P) (w := w) (ty := o.type) (t := t) (u := .slice p m c) (z := .int .i64 (Int.ofNat m)) (cs := []) (by simp [aLen, ht])
  simp [execOp, ho, resolve, invoke, builtin, h3, hl]
theorem subV {x y : Operand} {t t' : TypeId} {p q : Nat} (ho : o.op = .binOp .sub t x y t') (hx : evO l x = some (.int .i64 (p : Nat))) (hy : evO l y = some (.int .i64 (q : Nat))) (h : q ≤ p) (h2 : p < 9223372036854775808) : RunV P l L o (.int .i64 ((p - q : Nat) : Int)) := fun ρ w A _ => by
  have e1 : ρ x = .int .i64 (p : Int) := A x _ hx
  have e2 : ρ y = .int .i64 (q : Int) := A y _ hy
  have hr := run_nat (P := P) (w := w) (way := 1) (op := .sub) (k := .i64) (m := p) (n := q) (t := t) (v := .int .i64 ((p - q : Nat) : Int)) (cs := [q ≤ p, p - q < top .i64]) rfl (fun c hc => by
    simp only [List.mem_cons, List.not_mem_nil, or_false] at hc
    rcases hc with rfl | rfl
    · exact h
    · show p - q < 9223372036854775808
      omega)
  simp only [execOp, ho, e1, e2, Sem.run_bind, run_eqGuard_int, hr, Result.andThen_ok, Sem.run_pure]
theorem addrV {x y : Operand} {t e : TypeId} {g i m c : Nat} (ho : o.op = .indexAddr t x y) (hx : evO l x = some (.slice (some ⟨g, 0, none⟩) m c)) (hy : evO l y = some (.int .i64 (i : Nat))) (ht : P.underlying t = some (.slice e)) (hz : szOf P e = some 1) (hi : i < m) : RunV P l L o (.pointer (some ⟨g, i, none⟩)) := fun ρ w A _ => by
  have e1 := A x _ hx
  have e2 : ρ y = .int .i64 (i : Int) := A y _ hy
  have q := run_idxAddr (P := P) (w := w) (way := 1) (t := t) (u := .slice (some ⟨g, 0, none⟩) m c) (z := .pointer (some ⟨g, i, none⟩)) (i := i) (cs := [i < m]) (by simp [aIdxAddr, ht, hz, addOff, mulSz]) (fun c hc => by rw [List.mem_singleton] at hc; rw [hc]; exact hi)
  simp only [execOp, ho, e1, e2, Sem.run_bind, q, Result.andThen_ok, Sem.run_pure]
theorem loadV {x : Operand} {t : TypeId} {g i : Nat} {cs : Array Value} {T : TypeId} {fr : Nat × Nat} {v : Value} {d : TypeDesc} (ho : o.op = .load t x) (hx : evO l x = some (.pointer (some ⟨g, i, none⟩))) (ht : P.underlying t = some d) (hd : d.isRow = false) (hm : (g, Obj.cells cs T fr) ∈ L) (hc : cs[i]? = some v) : RunV P l L o v := fun ρ w A H => by
  have e1 := A x _ hx
  have hcell : w.cell? ⟨g, i, none⟩ = some v := by rw [cell_of (Has.mem H hm)]; exact hc
  have hag := isAgg_of (P := P) (w := w) ht
  rw [hd] at hag
  simp only [execOp, ho, e1]
  simp [Instr.loadAt, Instr.sureAddr, loadVar, hag, go_sem, hcell]
theorem draw_open {id N : Nat} (hm : P.follows .mixedOrders = true) (hN : ops.size = N) (M : MemS S w0 w L R) (K : ∀ w', MemS S w0 w' L R → wpAny P .any ops Q N (Array.replicate N false) a w') : (Code.region id ops true).wp P Q a w := by
  refine wp_region_any hm ?_
  rw [hN]
  exact K _ (M.keep (w' := { w with drawn := w.drawn + 1 }) ⟨rfl, rfl, rfl, Nat.le_refl _, fun _ _ => rfl⟩)
/-- A reckoning that looks at no memory is taken first. -/
theorem take_op (F : Fr n a l) {i : Nat} {oi : Oper} {v : Value} {d fuel : Nat} {listed : Array Bool} (hi : ops[i]? = some oi) (hs : Region.noSelect ops = true) (hf : Region.free .any ops listed i = true) (hr : (Region.ready .any ops listed).contains i = true)
    (hQ : ∀ c a (d : Nat) v w, Q (.panic c) (a.put (some d) v) w → Q (.panic c) a w) (hd : oi.dst = some d) (hn : d < n) (hg : wantOf ops.toList l oi = some true) (hrun : RunV P l [] oi v)
    (K : ∀ a', Fr n a' (upd d v l) → wpAny P .any ops Q fuel (listed.setIfInBounds i true) a' w) : wpAny P .any ops Q (fuel + 1) listed a w := by
  refine wpAny_take hi hs hf hr (fun c a w h => by rw [hd] at h; exact hQ c a d v w h) (.inl ⟨wanted_iff hg F.lk, fun w => hrun a.eval w F.agr (fun k y hy => by simp at hy)⟩) ?_
  rw [hd]
  exact K _ (F.put _ hn)
theorem read_op (F : Fr n a l) (H : Has w L) {i : Nat} {oi : Oper} {v : Value} {d : Nat} {K : Act → World → Prop} (hi : ops[i]? = some oi) (hd : oi.dst = some d) (hg : wantOf ops.toList l oi = some true) (hrun : RunV P l L oi v) (hK : K (a.put (some d) v) w) : wpOp P ops Q i K a w := by
  unfold wpOp
  simp only [hi, wanted_iff hg F.lk, if_true, Oper.wp, hrun a.eval w F.agr H, Oper.upon]
  rw [hd]
  exact .inl hK
/-- Two reads, in either order. -/
theorem take_two (F : Fr n a l) (H : Has w L) {i j : Nat} {oi oj : Oper} {u v : Value} {d e fuel : Nat} {listed : Array Bool} (hr : Region.ready .any ops listed = [i, j]) (hr1 : Region.ready .any ops (listed.setIfInBounds i true) = [j]) (hr2 : Region.ready .any ops (listed.setIfInBounds j true) = [i])
    (hi : ops[i]? = some oi) (hj : ops[j]? = some oj) (hd : oi.dst = some d) (he : oj.dst = some e) (hn : d < n) (hn2 : e < n) (hne : d ≠ e) (hij : i ≠ j) (hgi : wantOf ops.toList l oi = some true) (hgj : wantOf ops.toList l oj = some true) (hgi2 : wantOf ops.toList (upd e v l) oi = some true) (hgj2 : wantOf ops.toList (upd d u l) oj = some true)
    (hu : RunV P l L oi u) (hv : RunV P l L oj v) (hu2 : RunV P (upd e v l) L oi u) (hv2 : RunV P (upd d u l) L oj v)
    (K : ∀ a', Fr n a' (upd e v (upd d u l)) → wpAny P .any ops Q fuel ((listed.setIfInBounds i true).setIfInBounds j true) a' w) : wpAny P .any ops Q (fuel + 1 + 1) listed a w := by
  have hK := K _ ((F.put u hn).put v hn2)
  refine wpAny_all hr (by simp) fun k hk => ?_
  simp only [List.mem_cons, List.not_mem_nil, or_false] at hk
  rcases hk with hk | hk <;> rw [hk]
  · refine read_op F H hi hd hgi hu (wpAny_all hr1 (by simp) fun k2 hk2 => ?_)
    rw [List.mem_singleton] at hk2
    rw [hk2]
    exact read_op (F.put u hn) H hj he hgj2 hv2 hK
  · refine read_op F H hj he hgj hv (wpAny_all hr2 (by simp) fun k2 hk2 => ?_)
    rw [List.mem_singleton] at hk2
    rw [hk2]
    refine read_op (F.put v hn2) H hi hd hgi2 hu2 ?_
    rw [Act.put_comm a v u (x := some e) (y := some d) (fun z hz => by cases hz; exact fun q => hne (Option.some.inj q)), show (listed.setIfInBounds j true).setIfInBounds i true = (listed.setIfInBounds i true).setIfInBounds j true by
      rw [Array.setIfInBounds_comm _ _ hij.symm]]
    exact hK
/-- .. and then the row. -/
theorem to_row (m : Nat) {fuel : Nat} {listed : Array Bool} (hb : (List.range ops.toList.length).all (fun i => ((ops.toList[i]?).map fun o => (depsOf o).all fun j => decide (j < i)).getD true) = true) (hw : (List.range ops.toList.length).all (fun i => i ≤ m || ((ops.toList[i]?).map fun o => (depsOf o).contains (i - 1)).getD true) = true)
    (hm : m ≤ ops.size) (hs : listed.size = ops.size) (hl : (List.range m).all (fun j => listed.getD j false) = true) (hn : (List.range ops.size).all (fun j => decide (j < m) || !listed.getD j false) = true) (hf : ops.size ≤ m + fuel) (h : wpList P ops Q (ops.toList.drop m) a w) : wpAny P .any ops Q fuel listed a w := by
  refine tail_any_row m (fun i o ho j hj => ?_) (fun i o ho hi => ?_) fuel m listed a w (Nat.le_refl _) hm hs (fun j hj => ?_) (fun j hj => ?_) hf h
  · have hi : i < ops.toList.length := by
      rcases Nat.lt_or_ge i ops.toList.length with h | h
      · exact h
      · rw [List.getElem?_eq_none h] at ho; cases ho
    have h2 := List.all_eq_true.1 hb i (List.mem_range.2 hi)
    rw [ho] at h2
    simp only [Option.map_some, Option.getD_some] at h2
    exact of_decide_eq_true (List.all_eq_true.1 h2 j hj)
  · have hi' : i < ops.toList.length := by
      rcases Nat.lt_or_ge i ops.toList.length with h | h
      · exact h
      · rw [List.getElem?_eq_none h] at ho; cases ho
    have h2 := List.all_eq_true.1 hw i (List.mem_range.2 hi')
    rw [ho] at h2
    simp only [Option.map_some, Option.getD_some, Bool.or_eq_true, decide_eq_true_eq] at h2
    rcases h2 with h2 | h2
    · omega
    · simpa using h2
  · exact List.all_eq_true.1 hl j (List.mem_range.2 hj)
  · rcases Nat.lt_or_ge j ops.size with h2 | h2
    · have h3 := List.all_eq_true.1 hn j (List.mem_range.2 h2)
      simp only [Bool.or_eq_true, decide_eq_true_eq] at h3
      rcases h3 with h3 | h3
      · omega
      · simpa using h3
    · rw [Array.getD_eq_getD_getElem?, Array.getElem?_eq_none (by omega)]; rfl
/-- A row of bytes as a block. -/
theorem MemS.freezeB {g m cap : Nat} {e : TypeId} {X : List Nat} (M : MemS S w0 w L ((.slice (some ⟨g, 0, none⟩) m cap, e, 1, m, bcells X) :: R)) : ∃ rest : Array Value, MemS S w0 w ((g, .cells (cn .u8 X ++ rest) e) :: L) R ∧ w0.heap.size ≤ g ∧ m ≤ cap ∧ cap ≤ maxLen ∧ (cn .u8 X ++ rest).size = cap ∧ X.length = m := by
  obtain ⟨cur, h1, h2, h3, h4, h5, h6, h7⟩ := M.freeze
  have e1 : cur = cn .u8 X ++ (cur.toList.drop m).toArray := by
    apply Array.ext'
    rw [Array.toList_append, bcells_cn]
    conv => lhs; rw [← List.take_append_drop m cur.toList]
    rw [Nat.mul_one] at h6
    rw [h6]
  refine ⟨(cur.toList.drop m).toArray, ?_, h2, h3, h4, ?_, ?_⟩
  · rw [← e1]; exact h1
  · rw [← e1, h5, Nat.mul_one]
  · have : (bcells X).length = X.length := by simp [bcells]
    omega
end
end Go.Proofs.YtdeiodcfblldgaaDoor
namespace Go.Proofs.YtdeiodcfblldgaaDoor
open Go.RowKit
section
variable {P : Program} {ops : Array Oper} {a : Act} {w0 w w' : World} {Q : Exit → Act → World → Prop} {n : Nat} {l : Slots} {L : Blks} {S : Nat → Prop} {R : List Row} {o : Oper}
/-- What is to hold behind an operation, as what is to hold behind a row. -/
def onN (K : Act → World → Prop) (Q : Exit → Act → World → Prop) : Exit → Act → World → Prop := fun e a w => match e with | .normal => K a w | e => Q e a w
theorem onN_wp {K : Act → World → Prop} (h : o.wp P a w K (onN K Q)) : o.wp P a w K Q := by
  unfold Oper.wp at *
  generalize (execOp a.eval o).run P w = r at h ⊢
  unfold Oper.upon at *
  split <;> simp_all [onN, LetsOut]
/-- One operation, by the laws for rows. -/
theorem op_row {i : Nat} {K : Act → World → Prop} (hi : ops[i]? = some o) (h : wpList P ops (onN K Q) [o] a w) : wpOp P ops Q i K a w := by
  unfold wpOp
  simp only [hi]
  unfold wpList at h
  split
  · rename_i hw
    rw [if_pos hw] at h
    rcases h with h | ⟨h1, h2⟩
    · exact .inl (onN_wp h)
    · exact .inr ⟨h1, h2⟩
  · rename_i hw
    rw [if_neg hw] at h
    exact h
/-- Just one may come up. -/
theorem any_one {i fuel : Nat} {listed : Array Bool} (hr : Region.ready .any ops listed = [i]) (hi : ops[i]? = some o) (h : wpList P ops (onN (wpAny P .any ops Q fuel (listed.setIfInBounds i true)) Q) [o] a w) : wpAny P .any ops Q (fuel + 1) listed a w :=
  wpAny_all hr (by simp) fun k hk => by
    rw [List.mem_singleton] at hk
    subst hk
    exact op_row hi h
/-- One of two. -/
theorem any_two {i j fuel : Nat} {oi oj : Oper} {listed : Array Bool} (hr : Region.ready .any ops listed = [i, j]) (hi : ops[i]? = some oi) (hj : ops[j]? = some oj) (h : wpList P ops (onN (wpAny P .any ops Q fuel (listed.setIfInBounds i true)) Q) [oi] a w) (h2 : wpList P ops (onN (wpAny P .any ops Q fuel (listed.setIfInBounds j true)) Q) [oj] a w) : wpAny P .any ops Q (fuel + 1) listed a w :=
  wpAny_all hr (by simp) fun k hk => by
    simp only [List.mem_cons, List.not_mem_nil, or_false] at hk
    rcases hk with rfl | rfl
    · exact op_row hi h
    · exact op_row hj h2
/-- One of three. -/
theorem any_three {i j k fuel : Nat} {oi oj ok : Oper} {listed : Array Bool} (hr : Region.ready .any ops listed = [i, j, k]) (hi : ops[i]? = some oi) (hj : ops[j]? = some oj) (hk : ops[k]? = some ok) (h : wpList P ops (onN (wpAny P .any ops Q fuel (listed.setIfInBounds i true)) Q) [oi] a w) (h2 : wpList P ops (onN (wpAny P .any ops Q fuel (listed.setIfInBounds j true)) Q) [oj] a w) (h3 : wpList P ops (onN (wpAny P .any ops Q fuel (listed.setIfInBounds k true)) Q) [ok] a w) : wpAny P .any ops Q (fuel + 1) listed a w :=
  wpAny_all hr (by simp) fun q hq => by
    simp only [List.mem_cons, List.not_mem_nil, or_false] at hq
    rcases hq with rfl | rfl | rfl
    · exact op_row hi h
    · exact op_row hj h2
    · exact op_row hk h3
/-- None is left. -/
theorem any_none {listed : Array Bool} {fuel : Nat} (hr : Region.ready .any ops listed = []) (h : Q .normal a w) : wpAny P .any ops Q fuel listed a w := by
  cases fuel with
  | zero => exact ⟨hr, h⟩
  | succ k => exact ⟨fun _ => h, fun i hi => by rw [hr] at hi; cases hi⟩
theorem nilV {x : Operand} {p : Addr} (ho : o.op = .nilCheck x) (hx : evO l x = some (.pointer (some p))) : RunV P l L o (.pointer (some p)) := fun ρ w A _ => by
  have e1 := A x _ hx
  simp [execOp, ho, e1, go_sem]
theorem fldV {x : Operand} {t k : Nat} {u v : Value} {cs : List Prop} (ho : o.op = .fieldAddr t x k) (hx : evO l x = some u) (hf : aField P t u k = some (v, cs)) : RunV P l L o v := fun ρ w A _ => by
  have e1 := A x _ hx
  have q := run_field (P := P) (w := w) hf
  simp only [execOp, ho, e1, Sem.run_bind, q, Result.andThen_ok, Sem.run_pure]
theorem extV {x : Operand} {i : Nat} {vs : Array Value} {v : Value} (ho : o.op = .extract x i) (hx : evO l x = some (.tuple vs)) (hv : vs[i]? = some v) : RunV P l L o v := fun ρ w A _ => by
  have e1 := A x _ hx
  simp [execOp, ho, e1, go_sem, hv]
theorem onN_n {K : Act → World → Prop} (h : K a w) : onN K Q .normal a w := h
/-- A call that turns one block, in whatever list that block stands. -/
theorem callU_turn {f : FuncId} {args : List Value} {v : Value} {g i : Nat} {ob ob' : Obj} (he : Enters P f) (hi : L[i]? = some (g, ob)) (h : ∀ w, w.heap[g]? = some ob → Calls P f args.toArray w fun e w' => e = .returned v ∧ Turn g ob' w w') : CallU P f args L v [(i, ob')] :=
  ⟨he, fun w H => (h w (H i _ hi)).mono fun e w' ⟨h1, t⟩ => ⟨h1, t.os, t.tape, t.output, t.size, fun k hk hn => t.block k hk (fun e => hn _ (List.mem_singleton.2 rfl) (g, ob) hi e.symm), fun _ h => (nomatch h), fun _ => rfl, fun u hu y hy => by
    rw [List.mem_singleton] at hu
    subst hu
    rw [hi] at hy
    obtain rfl := Option.some.inj hy
    exact t.now⟩⟩
theorem MemS.turnAt {g : Nat} {ob ob' : Obj} (M : MemS S w0 w L R) (t : Turn g ob' w w') (i : Nat) (hi : L[i]? = some (g, ob)) : MemS S w0 w' (newL 0 ⟨fun _ => undef, none, [(i, ob')]⟩ L) R :=
  M.post ⟨t.os, t.tape, t.output, t.size, fun k hk hn => t.block k hk (fun e => hn _ (List.mem_singleton.2 rfl) (g, ob) hi e.symm), fun _ h => (nomatch h), fun _ => rfl, fun u hu y hy => by
    rw [List.mem_singleton] at hu
    subst hu
    rw [hi] at hy
    obtain rfl := Option.some.inj hy
    exact t.now⟩
theorem Turn.of_below {g : Nat} {ob : Obj} (hg : w.heap[g]? = some ob) (h : Below w.heap.size w w') : Turn g ob w w' := ⟨h.os, h.tape, h.output, h.size, fun k hk _ => h.block k hk, (h.block g (lt_of_block hg)).trans hg⟩
theorem Turn.trans {w2 : World} {g : Nat} {ob ob' : Obj} (t : Turn g ob w w') (t2 : Turn g ob' w' w2) : Turn g ob' w w2 := ⟨t2.os.trans t.os, t2.tape.trans t.tape, t2.output.trans t.output, Nat.le_trans t.size t2.size, fun k hk hne => (t2.block k (Nat.lt_of_lt_of_le hk t.size) hne).trans (t.block k hk hne), t2.now⟩
/-- A number that a call has made which turned a block. -/
theorem MemS.addNatsT {K O : Blks} {v : Value} {N : Nat} {ns : List (Value × Nat)} (M : MemS S w0 w L R) (M' : MemS S w0 w' (K ++ O) R) (hi : (K ++ O).map (·.1) = L.map (·.1)) (hn : NatNew w.heap.size w' v N) (hN : Nats O ns) : ∃ O', MemS S w0 w' (K ++ O') R ∧ Nats O' ((v, N) :: ns) ∧ ∀ x ∈ O, x ∈ O' := by
  obtain ⟨O', h1, h2, h3⟩ := M'.addNat hn.1 (fun g hg x hx => by
    have h4 : x.1 ∈ L.map (·.1) := hi ▸ List.mem_map_of_mem hx
    obtain ⟨y, hy, e⟩ := List.mem_map.1 h4
    have := lt_of_block (Has.mem M.hasL hy)
    have := hn.2 g hg
    have e : y.1 = x.1 := e
    omega) (fun g hg hs => by have := M.old g hs; have := M.size; have := hn.2 g hg; omega) (fun g hg r hr g' hg' => by have := (ownsRow_lt (M.rows r hr) hg').2; have := hn.2 g hg; omega)
  exact ⟨O', h1, .cons h2 (hN.mono h3), h3⟩
theorem wp_via {A : Code} (R : Act → World → Prop) (hA : A.wp P (Exit.then R Q) a w) (hB : ∀ a w, R a w → Q .normal a w) : A.wp P Q a w :=
  wp_mono hA fun e a w h => by
    cases e with
    | normal => exact hB a w h
    | _ => exact h
end
end Go.Proofs.YtdeiodcfblldgaaDoor
namespace Go.Proofs.YtdeiodcfblldgaaDoor
open Go.RowKit

theorem natNew_nil (base : Nat) (w : World) : NatNew base w (nv 0 (.slice none 0 0)) 0 := ⟨⟨none, 0, rfl, fun _ => ⟨rfl, rfl⟩, fun h => (h rfl).elim, Nat.le_refl _, .inl rfl⟩, fun g hg => by cases hg⟩
/-- The next n bytes of a tape: its own, then noughts. -/
def takN (n : Nat) (X : List Nat) : List Nat := X.take n ++ List.replicate (n - X.length) 0
theorem takN_len (n : Nat) (X : List Nat) : (takN n X).length = n := by simp [takN]; omega
theorem dropD (X : List Nat) (k i : Nat) : (X.drop k).getD i 0 = X.getD (k + i) 0 := by simp [List.getD_eq_getElem?_getD]
theorem takN_get {n i : Nat} (X : List Nat) (h : i < n) : (takN n X).getD i 0 = X.getD i 0 := by
  rw [takN]
  rcases Nat.lt_or_ge i X.length with h1 | h1
  · rw [getD_app_l _ _ _ (by simp; omega), List.getD_eq_getElem?_getD, List.getElem?_take, if_pos h, List.getD_eq_getElem?_getD]
  · rw [getD_app_r _ _ _ (by simp; omega), rep_get, getD_out h1]
theorem takN_lt {X : List Nat} (hX : ∀ i, X.getD i 0 < 256) (n : Nat) : ∀ i, (takN n X).getD i 0 < 256 := fun i => by
  rcases Nat.lt_or_ge i n with h | h
  · rw [takN_get X h]; exact hX i
  · rw [getD_out (by rw [takN_len]; exact h)]; decide
theorem dropX_min (X : List Nat) (n : Nat) : X.drop (min X.length n) = X.drop n := by
  rcases Nat.le_total X.length n with h | h
  · rw [Nat.min_eq_left h, List.drop_length, List.drop_of_length_le h]
  · rw [Nat.min_eq_right h]
theorem dropX_lt {X : List Nat} (hX : ∀ i, X.getD i 0 < 256) (n : Nat) : ∀ i, (X.drop n).getD i 0 < 256 := fun i => by rw [dropD]; exact hX _
theorem tak_cells (n : Nat) (X : List Nat) : setFrom (cn .u8 (List.replicate n 0)) 0 (bcells (X.take n)) = cn .u8 (takN n X) := by
  apply Array.ext_getElem?
  intro j
  rw [setFrom_get]
  have hb : (bcells (X.take n)).length = min n X.length := by simp [bcells]
  rcases Nat.lt_or_ge j n with h | h
  · rw [show (cn .u8 (takN n X))[j]? = some (.int .u8 (X.getD j 0 : Nat)) by rw [cn_get _ _ _ (by rw [takN_len]; exact h), takN_get X h]]
    by_cases h1 : j < X.length
    · rw [if_pos ⟨Nat.zero_le _, by rw [hb]; omega, by rw [cn_size, List.length_replicate]; exact h⟩]
      simp [bcells, h, List.getD_eq_getElem?_getD, List.getElem?_eq_getElem h1]
    · rw [if_neg (fun q => by have := q.2.1; rw [hb] at this; omega), cn_get _ _ _ (by rw [List.length_replicate]; exact h), rep_get, getD_out (by omega)]
  · rw [if_neg (fun q => by have := q.2.2; rw [cn_size, List.length_replicate] at this; omega), Array.getElem?_eq_none (by rw [cn_size, List.length_replicate]; exact h), Array.getElem?_eq_none (by rw [cn_size, takN_len]; exact h)]
/-- The first i of them, the rest noughts. -/
def tkI (n : Nat) (X : List Nat) (i : Nat) : List Nat := genL n (fun j => X.getD j 0) i
theorem tkI_end (n : Nat) (X : List Nat) : genL n (fun j => X.getD j 0) n = takN n X := by
  refine ext_getD (by rw [genL_len, takN_len]) fun i hi => ?_
  rw [genL_len] at hi
  rw [genL_get _ _ _ hi, if_pos hi, takN_get X hi]
theorem tk_zero {X : List Nat} {n i : Nat} (h : X.length ≤ i) (_hi : i < n) : genL n (fun j => X.getD j 0) (i + 1) = genL n (fun j => X.getD j 0) i := by
  refine ext_getD (by rw [genL_len, genL_len]) fun j hj => ?_
  rw [genL_len] at hj
  rw [genL_get _ _ _ hj, genL_get _ _ _ hj]
  by_cases e : j = i
  · subst e; rw [if_pos (by omega), if_neg (by omega), getD_out h]
  · by_cases h1 : j < i
    · rw [if_pos (by omega), if_pos h1]
    · rw [if_neg (by omega), if_neg h1]
/-! ### A number below n -/
/-- Two bytes as a number. -/
def twoN (X : List Nat) : Nat := X.getD 0 0 + 256 * X.getD 1 0
theorem two_lt {X : List Nat} (hX : ∀ i, X.getD i 0 < 256) : twoN X < 65536 := by have := hX 0; have := hX 1; unfold twoN; omega
theorem two_or {X : List Nat} (hX : ∀ i, X.getD i 0 < 256) : (takN 2 X).getD 0 0 ||| (takN 2 X).getD 1 0 * 256 = twoN X := by
  rw [takN_get X (by decide), takN_get X (by decide)]
  have h := or_shl (a := X.getD 0 0) (b := X.getD 1 0) 8 (hX 0)
  rw [show (2 : Nat) ^ 8 = 256 by rfl] at h
  rw [h, twoN]; omega
/-- What is drawn below n by k tries: the answer, the refusal, how many bytes. -/
def belN (n : Nat) : Nat → List Nat → Nat × Nat × Nat
  | 0, _ => (0, 3, 0)
  | k + 1, X => if twoN X < 65536 - 65536 % n then (twoN X % n, 0, 2) else ((belN n k (X.drop 2)).1, (belN n k (X.drop 2)).2.1, 2 + (belN n k (X.drop 2)).2.2)
/-- .. behind i tries that were none. -/
def BelI (n k : Nat) (X : List Nat) (i : Nat) : Prop := belN n k X = ((belN n (k - i) (X.drop (2 * i))).1, (belN n (k - i) (X.drop (2 * i))).2.1, 2 * i + (belN n (k - i) (X.drop (2 * i))).2.2)
theorem bel_start (n k : Nat) (X : List Nat) : BelI n k X 0 := by unfold BelI; simp
theorem bel_no {n k i : Nat} {X : List Nat} (h : BelI n k X i) (hi : i < k) (hv : ¬ twoN (X.drop (2 * i)) < 65536 - 65536 % n) : BelI n k X (i + 1) := by
  unfold BelI at *
  obtain ⟨m, hm⟩ : ∃ m, k - i = m + 1 := ⟨k - i - 1, by omega⟩
  rw [hm] at h
  rw [show k - (i + 1) = m by omega, h]
  simp only [belN, if_neg hv, List.drop_drop, Nat.mul_add, Nat.mul_one]
  simp only [Nat.add_assoc]
theorem bel_yes {n k i : Nat} {X : List Nat} (h : BelI n k X i) (hi : i < k) (hv : twoN (X.drop (2 * i)) < 65536 - 65536 % n) : belN n k X = (twoN (X.drop (2 * i)) % n, 0, 2 * i + 2) := by
  unfold BelI at h
  obtain ⟨m, hm⟩ : ∃ m, k - i = m + 1 := ⟨k - i - 1, by omega⟩
  rw [hm] at h
  rw [h]
  simp only [belN, if_pos hv]
theorem bel_end {n k : Nat} {X : List Nat} (h : BelI n k X k) : belN n k X = (0, 3, 2 * k) := by
  unfold BelI at h
  rw [h, Nat.sub_self]
  rfl
theorem bel_bd (n : Nat) : ∀ (k : Nat) (X : List Nat), (belN n k X).2.2 ≤ 2 * k
  | 0, _ => Nat.le_refl _
  | k + 1, X => by
    have := bel_bd n k (X.drop 2)
    simp only [belN]
    split <;> simp only <;> omega
/-! ### A number under another one -/
/-- The lowest b bits of the next bytes. -/
def bitN (b : Nat) (X : List Nat) : Nat := leV (takN ((b + 7) / 8) X) % 2 ^ b
theorem mask_last {Y : List Nat} {m c : Nat} (hY : ∀ i, Y.getD i 0 < 256) (hl : Y.length = m + 1) : leV (Y.set m (Y.getD m 0 % 2 ^ c)) = leV Y % 2 ^ (8 * m + c) := by
  have e1 : Y = Y.take m ++ [Y.getD m 0] := by
    refine ext_getD (by simp [hl]) fun i hi => ?_
    rcases Nat.lt_or_ge i m with h | h
    · rw [getD_app_l _ _ _ (by simp; omega), List.getD_eq_getElem?_getD, List.getD_eq_getElem?_getD, List.getElem?_take, if_pos h]
    · obtain rfl : i = m := by omega
      rw [getD_app_r _ _ _ (by simp; omega)]
      simp [hl]
  have hA : leV (Y.take m) < 256 ^ m := leV_take hY m
  have e2 : Y.set m (Y.getD m 0 % 2 ^ c) = Y.take m ++ [Y.getD m 0 % 2 ^ c] := by
    refine ext_getD (by simp [hl]) fun i hi => ?_
    simp only [List.length_set] at hi
    rw [getD_set]
    rcases Nat.lt_or_ge i m with h | h
    · rw [if_neg (by omega), getD_app_l _ _ _ (by simp; omega), List.getD_eq_getElem?_getD, List.getD_eq_getElem?_getD, List.getElem?_take, if_pos h]
    · obtain rfl : m = i := by omega
      rw [if_pos ⟨rfl, by omega⟩, getD_app_r _ _ _ (by simp; omega)]
      simp [hl]
  have e3 : ∀ y, leV (Y.take m ++ [y]) = leV (Y.take m) + 256 ^ m * y := fun y => by
    rw [leV_app]; simp [leV, hl]
  have ep : 2 ^ (8 * m + c) = 256 ^ m * 2 ^ c := by rw [Nat.pow_add, Nat.pow_mul]
  have hv : leV Y = leV (Y.take m) + 256 ^ m * Y.getD m 0 := (congrArg leV e1).trans (e3 _)
  rw [e2, e3, hv, ep, Nat.mod_mul, Nat.add_mul_mod_self_left, Nat.mod_eq_of_lt hA, Nat.add_mul_div_left _ _ (Nat.pow_pos (by decide)), Nat.div_eq_of_lt hA, Nat.zero_add]
theorem and_shr {x k : Nat} (hk : k ≤ 7) : x &&& 255 / 2 ^ k = x % 2 ^ (8 - k) := by
  have e : 255 / 2 ^ k = 2 ^ (8 - k) - 1 := by
    have : ∀ k : Fin 8, 255 / 2 ^ k.val = 2 ^ (8 - k.val) - 1 := by decide
    exact this ⟨k, by omega⟩
  rw [e]; exact Nat.and_two_pow_sub_one_eq_mod x (8 - k)
theorem bit_tape {X : List Nat} {b : Nat} (hX : ∀ i, X.getD i 0 < 256) (hb : 1 ≤ b) : leV ((takN ((b + 7) / 8) X).set ((b + 7) / 8 - 1) ((takN ((b + 7) / 8) X).getD ((b + 7) / 8 - 1) 0 &&& 255 / 2 ^ (8 * ((b + 7) / 8) - b))) = bitN b X := by
  rw [and_shr (by omega)]
  have := mask_last (Y := takN ((b + 7) / 8) X) (m := (b + 7) / 8 - 1) (c := 8 - (8 * ((b + 7) / 8) - b)) (takN_lt hX _) (by rw [takN_len]; omega)
  rw [this, bitN]
  congr 2; omega
theorem bit_ref0 {X : List Nat} {b : Nat} (hX : ∀ i, X.getD i 0 < 256) (hb : b % 8 = 0) : leV (takN ((b + 7) / 8) X) = bitN b X := by
  rw [bitN, Nat.mod_eq_of_lt]
  have := leV_lt (takN ((b + 7) / 8) X) (takN_lt hX _)
  rw [takN_len, show 256 = 2 ^ 8 by rfl, ← Nat.pow_mul, show 8 * ((b + 7) / 8) = b by omega] at this
  exact this
theorem bit_ref {X : List Nat} {b : Nat} (hX : ∀ i, X.getD i 0 < 256) (hb : b % 8 ≠ 0) : leV ((takN ((b + 7) / 8) X).set ((b + 7) / 8 - 1) ((takN ((b + 7) / 8) X).getD ((b + 7) / 8 - 1) 0 &&& ((1 * 2 ^ (b % 8) % 256 + (256 - 1)) % 256))) = bitN b X := by
  have e : (1 * 2 ^ (b % 8) % 256 + (256 - 1)) % 256 = 2 ^ (b % 8) - 1 := by
    have : ∀ k : Fin 8, k.val ≠ 0 → (1 * 2 ^ k.val % 256 + (256 - 1)) % 256 = 2 ^ k.val - 1 := by decide
    exact this ⟨b % 8, by omega⟩ hb
  rw [e, Nat.and_two_pow_sub_one_eq_mod]
  have := mask_last (Y := takN ((b + 7) / 8) X) (m := (b + 7) / 8 - 1) (c := b % 8) (takN_lt hX _) (by rw [takN_len]; omega)
  rw [this, bitN]
  congr 2; omega
theorem bitN_lt (b : Nat) (X : List Nat) : bitN b X < 2 ^ b := Nat.mod_lt _ (Nat.pow_pos (by decide))
/-- What is drawn under W by k tries, s bytes each. -/
def undN (W b : Nat) : Nat → List Nat → Nat × Nat × Nat
  | 0, _ => (0, 3, 0)
  | k + 1, X => if bitN b X < W then (bitN b X, 0, (b + 7) / 8) else ((undN W b k (X.drop ((b + 7) / 8))).1, (undN W b k (X.drop ((b + 7) / 8))).2.1, (b + 7) / 8 + (undN W b k (X.drop ((b + 7) / 8))).2.2)
def UndI (W b k : Nat) (X : List Nat) (i : Nat) : Prop := undN W b k X = ((undN W b (k - i) (X.drop ((b + 7) / 8 * i))).1, (undN W b (k - i) (X.drop ((b + 7) / 8 * i))).2.1, (b + 7) / 8 * i + (undN W b (k - i) (X.drop ((b + 7) / 8 * i))).2.2)
theorem und_start (W b k : Nat) (X : List Nat) : UndI W b k X 0 := by unfold UndI; simp
theorem und_no {W b k i : Nat} {X : List Nat} (h : UndI W b k X i) (hi : i < k) (hv : ¬ bitN b (X.drop ((b + 7) / 8 * i)) < W) : UndI W b k X (i + 1) := by
  unfold UndI at *
  obtain ⟨m, hm⟩ : ∃ m, k - i = m + 1 := ⟨k - i - 1, by omega⟩
  rw [hm] at h
  rw [show k - (i + 1) = m by omega, h]
  simp only [undN, if_neg hv, List.drop_drop, Nat.mul_add, Nat.mul_one]
  simp only [Nat.add_assoc]
theorem und_yes {W b k i : Nat} {X : List Nat} (h : UndI W b k X i) (hi : i < k) (hv : bitN b (X.drop ((b + 7) / 8 * i)) < W) : undN W b k X = (bitN b (X.drop ((b + 7) / 8 * i)), 0, (b + 7) / 8 * i + (b + 7) / 8) := by
  unfold UndI at h
  obtain ⟨m, hm⟩ : ∃ m, k - i = m + 1 := ⟨k - i - 1, by omega⟩
  rw [hm] at h
  rw [h]
  simp only [undN, if_pos hv]
theorem und_end {W b k : Nat} {X : List Nat} (h : UndI W b k X k) : undN W b k X = (0, 3, (b + 7) / 8 * k) := by
  unfold UndI at h
  rw [h, Nat.sub_self]
  rfl
theorem und_bd (W b : Nat) : ∀ (k : Nat) (X : List Nat), (undN W b k X).2.2 ≤ (b + 7) / 8 * k
  | 0, _ => Nat.le_refl _
  | k + 1, X => by
    have := und_bd W b k (X.drop ((b + 7) / 8))
    simp only [undN]
    rw [Nat.mul_succ]
    split <;> simp only <;> omega
theorem und_lt {W b : Nat} (hW : W < 2 ^ b) : ∀ (k : Nat) (X : List Nat), (undN W b k X).1 < 2 ^ b
  | 0, _ => Nat.pow_pos (by decide)
  | k + 1, X => by
    simp only [undN]
    split
    · exact bitN_lt b X
    · exact und_lt hW k _
/-- Either none was, or the last one is, and is below. -/
theorem und_ways (W b : Nat) : ∀ (k : Nat) (X : List Nat), (undN W b k X = (0, 3, (b + 7) / 8 * k)) ∨ ((undN W b k X).1 < W ∧ (undN W b k X).2.1 = 0 ∧ ∃ i, i < k ∧ (undN W b k X).2.2 = (b + 7) / 8 * (i + 1))
  | 0, _ => .inl rfl
  | k + 1, X => by
    simp only [undN]
    split
    · rename_i h
      exact .inr ⟨h, rfl, 0, by omega, by simp⟩
    · rcases und_ways W b k (X.drop ((b + 7) / 8)) with h | ⟨h1, h2, i, h3, h4⟩
      · left
        rw [h]
        simp only [Nat.mul_succ, Nat.add_comm]
      · right
        refine ⟨h1, h2, i + 1, by omega, ?_⟩
        simp only [h4, Nat.mul_succ]
        omega

end Go.Proofs.YtdeiodcfblldgaaDoor
