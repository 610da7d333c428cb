/- strings.Builder: WriteString, String. -/
import Derived.Test.YtkpindnekaijfaaDoorD0
import Derived.Test.YtkpindnekaijfaaDoorEvK
namespace Go.Proofs.YtkpindnekaijfaaDoor
open Go.RowKit

theorem en_copychk : Enters Tryd.prog 26 := fun args w => by simp [go_sem]
theorem en_bwrite : Enters Tryd.prog 21 := fun args w => by simp [go_sem]
theorem en_bstring : Enters Tryd.prog 23 := fun args w => by simp [go_sem]
theorem en_lowest : Enters Tryd.prog 22 := fun args w => by simp [go_sem]
theorem en_pack : Enters Tryd.prog 9 := fun args w => by simp [go_sem]
theorem en_key : Enters Tryd.prog 11 := fun args w => by simp [go_sem]
theorem en_did : Enters Tryd.prog 13 := fun args w => by simp [go_sem]
theorem en_round : Enters Tryd.prog 15 := fun args w => by simp [go_sem]
theorem en_nonce : Enters Tryd.prog 17 := fun args w => by simp [go_sem]
set_option maxRecDepth 100000 in
theorem copychk_fresh (rv : Value) (b j : Nat) (L : Blks) (hj : L[j]? = some (b, .cells #[.pointer none, rv] 54)) (w0 : World) (H : Has w0 L) :
    Calls Tryd.prog 26 #[.pointer (some ⟨b, 0, none⟩)] w0 fun e w' => e = .returned (.tuple #[]) ∧ Post w0 w' L ⟨fun _ => .tuple #[], none, [(j, .cells #[.pointer (some ⟨b, 0, none⟩), rv] 54)]⟩ 0 := by
  have MM := MemS.start1 (H j _ hj)
  refine enter_fr Tryd.func26 rfl Tryd.ntmps26 (by simp) fun ac (FF : Fr 20 ac [(0, .pointer (some ⟨b, 0, none⟩))]) => ?_
  refine wp_seq (rg_seq FF MM [o_, o_, o_, l_ 0 (.pointer none), f_ (.bool true)] [0, 6] (fun Kt => b = b ∧ (#[.pointer none, rv] : Array Value)[0]? = some (.pointer none) ∧ RunV Tryd.prog [(5, .pointer none), (4, .pointer (some ⟨b, 0, none⟩)), (3, .pointer (some ⟨b, 0, none⟩)), (2, .pointer (some ⟨b, 0, none⟩)), (0, .pointer (some ⟨b, 0, none⟩))] [(b, .cells (#[.pointer none, rv] : Array Value) 54)] (opAt Tryd.f26 0 4) (.bool true) ∧ Kt [(6, .bool true), (0, .pointer (some ⟨b, 0, none⟩))] [(b, .cells (#[.pointer none, rv] : Array Value) 54)]) (by kernel_rfl) (fun _ => by kernel_rfl) (⟨rfl, rfl, (ptrNil_ok (t := 52) (t' := 52) (x := .tmp 5) (y := (.const (.pointer none))) (by kernel_rfl) rfl rfl Tryd.underlying52), fun ac1 wd1 FF1 MM1 => then_n ?_⟩))
  refine wp_cond_true (FF1.ev 0 rfl) ?_
  refine rg_seq FF1 MM1 [o_, o_, f_ (.pointer (some ⟨b, 0, none⟩)), f_ (.pointer (some ⟨b, 0, none⟩)), f_ (.pointer (some ⟨b, 0, none⟩)), o_, o_, s_ 0 (.cells (#[.pointer (some ⟨b, 0, none⟩), rv] : Array Value) 54)] [0] (fun Kt => RunV Tryd.prog [(8, .pointer (some ⟨b, 0, none⟩)), (7, .pointer (some ⟨b, 0, none⟩)), (6, .bool true), (0, .pointer (some ⟨b, 0, none⟩))] [(b, .cells (#[.pointer none, rv] : Array Value) 54)] (opAt Tryd.f26 1 2) (.pointer (some ⟨b, 0, none⟩)) ∧ RunV Tryd.prog [(9, .pointer (some ⟨b, 0, none⟩)), (8, .pointer (some ⟨b, 0, none⟩)), (7, .pointer (some ⟨b, 0, none⟩)), (6, .bool true), (0, .pointer (some ⟨b, 0, none⟩))] [(b, .cells (#[.pointer none, rv] : Array Value) 54)] (opAt Tryd.f26 1 3) (.pointer (some ⟨b, 0, none⟩)) ∧ RunV Tryd.prog [(10, .pointer (some ⟨b, 0, none⟩)), (9, .pointer (some ⟨b, 0, none⟩)), (8, .pointer (some ⟨b, 0, none⟩)), (7, .pointer (some ⟨b, 0, none⟩)), (6, .bool true), (0, .pointer (some ⟨b, 0, none⟩))] [(b, .cells (#[.pointer none, rv] : Array Value) 54)] (opAt Tryd.f26 1 4) (.pointer (some ⟨b, 0, none⟩)) ∧ b = b ∧ 0 < (#[.pointer none, rv] : Array Value).size ∧ (((0, 0)).2 = 0 ∨ 0 < ((0, 0)).1) ∧ (#[.pointer none, rv] : Array Value).setIfInBounds 0 (.pointer (some ⟨b, 0, none⟩)) = #[.pointer (some ⟨b, 0, none⟩), rv] ∧ Kt [(0, .pointer (some ⟨b, 0, none⟩))] [(b, .cells (#[.pointer (some ⟨b, 0, none⟩), rv] : Array Value) 54)]) (by kernel_rfl) (fun _ => by kernel_rfl) (⟨(toUnsafe_ok (x := .tmp 8) (i := 0) (by kernel_rfl) rfl Tryd.underlying52 Tryd.underlying79 (by kernel_rfl) rfl (Nat.zero_lt_succ 1)), (noEsc_ok (f := 34) (ts := #[79]) (x := .tmp 9) (by kernel_rfl) rfl Tryd.func34 (by kernel_rfl) (by kernel_rfl) (by kernel_rfl) (by kernel_rfl)), (fromUnsafe_ok (x := .tmp 10) (i := 0) (by kernel_rfl) rfl Tryd.underlying79 Tryd.underlying52 (by kernel_rfl) rfl (by kernel_rfl)), rfl, (by simp), (.inl rfl), rfl, fun ac2 wd2 FF2 MM2 => ?_⟩)
  exact (end_none FF2 Tryd.results26 ⟨rfl, MM2.post1 0 rfl hj⟩)
set_option maxRecDepth 100000 in
theorem copychk_used (rv : Value) (b j : Nat) (L : Blks) (hj : L[j]? = some (b, .cells #[.pointer (some ⟨b, 0, none⟩), rv] 54)) (w0 : World) (H : Has w0 L) :
    Calls Tryd.prog 26 #[.pointer (some ⟨b, 0, none⟩)] w0 fun e w' => e = .returned (.tuple #[]) ∧ Post w0 w' L ⟨fun _ => .tuple #[], none, [(j, .cells #[.pointer (some ⟨b, 0, none⟩), rv] 54)]⟩ 0 := by
  have MM := MemS.start1 (H j _ hj)
  refine enter_fr Tryd.func26 rfl Tryd.ntmps26 (by simp) fun ac (FF : Fr 20 ac [(0, .pointer (some ⟨b, 0, none⟩))]) => ?_
  refine wp_seq (rg_seq FF MM [o_, o_, o_, l_ 0 (.pointer (some ⟨b, 0, none⟩)), f_ (.bool false)] [0, 6] (fun Kt => b = b ∧ (#[.pointer (some ⟨b, 0, none⟩), rv] : Array Value)[0]? = some (.pointer (some ⟨b, 0, none⟩)) ∧ RunV Tryd.prog [(5, .pointer (some ⟨b, 0, none⟩)), (4, .pointer (some ⟨b, 0, none⟩)), (3, .pointer (some ⟨b, 0, none⟩)), (2, .pointer (some ⟨b, 0, none⟩)), (0, .pointer (some ⟨b, 0, none⟩))] [(b, .cells (#[.pointer (some ⟨b, 0, none⟩), rv] : Array Value) 54)] (opAt Tryd.f26 0 4) (.bool false) ∧ Kt [(6, .bool false), (0, .pointer (some ⟨b, 0, none⟩))] [(b, .cells (#[.pointer (some ⟨b, 0, none⟩), rv] : Array Value) 54)]) (by kernel_rfl) (fun _ => by kernel_rfl) (⟨rfl, rfl, (ptrSome_ok (t := 52) (t' := 52) (x := .tmp 5) (y := (.const (.pointer none))) (by kernel_rfl) rfl rfl Tryd.underlying52), fun ac1 wd1 FF1 MM1 => then_n ?_⟩))
  refine wp_cond_false (FF1.ev 0 rfl) ?_
  refine wp_seq (rg_seq FF1 MM1 [o_, o_, o_, l_ 0 (.pointer (some ⟨b, 0, none⟩)), o_, f_ (.bool false)] [0, 19] (fun Kt => b = b ∧ (#[.pointer (some ⟨b, 0, none⟩), rv] : Array Value)[0]? = some (.pointer (some ⟨b, 0, none⟩)) ∧ RunV Tryd.prog [(18, .pointer (some ⟨b, 0, none⟩)), (17, .pointer (some ⟨b, 0, none⟩)), (16, .pointer (some ⟨b, 0, none⟩)), (15, .pointer (some ⟨b, 0, none⟩)), (14, .pointer (some ⟨b, 0, none⟩)), (6, .bool false), (0, .pointer (some ⟨b, 0, none⟩))] [(b, .cells (#[.pointer (some ⟨b, 0, none⟩), rv] : Array Value) 54)] (opAt Tryd.f26 2 5) (.bool false) ∧ Kt [(19, .bool false), (0, .pointer (some ⟨b, 0, none⟩))] [(b, .cells (#[.pointer (some ⟨b, 0, none⟩), rv] : Array Value) 54)]) (by kernel_rfl) (fun _ => by kernel_rfl) (⟨rfl, rfl, (ptrSame_ok (t := 52) (t' := 52) (x := .tmp 17) (y := .tmp 18) (by kernel_rfl) rfl rfl Tryd.underlying52 (by kernel_rfl)), fun ac2 wd2 FF2 MM2 => then_n ?_⟩))
  refine wp_cond_false (FF2.ev 0 rfl) ?_
  refine wp_skip ?_
  exact (end_none FF2 Tryd.results26 ⟨rfl, MM2.post1 0 rfl hj⟩)
theorem copychk_any (p rv : Value) (b j : Nat) (hp : p = .pointer none ∨ p = .pointer (some ⟨b, 0, none⟩)) (L : Blks) (hj : L[j]? = some (b, .cells #[p, rv] 54)) (w0 : World) (H : Has w0 L) :
    Calls Tryd.prog 26 #[.pointer (some ⟨b, 0, none⟩)] w0 fun e w' => e = .returned (.tuple #[]) ∧ Post w0 w' L ⟨fun _ => .tuple #[], none, [(j, .cells #[.pointer (some ⟨b, 0, none⟩), rv] 54)]⟩ 0 := by
  rcases hp with rfl | rfl
  · exact copychk_fresh rv b j L hj w0 H
  · exact copychk_used rv b j L hj w0 H
set_option maxRecDepth 100000 in
theorem bwrite_any {S : Nat → Prop} {w0 : World} {L : Blks} {R : List Row} {p : Value} {q : Option Addr} {b n c : Nat} {X : List Value} {Y : List Nat} (hp : p = .pointer none ∨ p = .pointer (some ⟨b, 0, none⟩)) (hY : ∀ i, Y.getD i 0 < 256) (hb : n + Y.length ≤ 140737488355328) (w : World)
    (M : MemS S w0 w ((b, .cells #[p, .slice q n c] 54) :: L) ((.slice q n c, 5, 1, n, X) :: R)) :
    Calls Tryd.prog 21 #[.pointer (some ⟨b, 0, none⟩), .string (bs Y)] w fun e w' => e = .returned (.tuple #[.int .i64 (Y.length : Nat), .nilIface]) ∧
      ∃ q' c', MemS S w0 w' ((b, .cells #[.pointer (some ⟨b, 0, none⟩), .slice q' (n + Y.length) c'] 54) :: L) ((.slice q' (n + Y.length) c', 5, 1, n + Y.length, X ++ bcells Y) :: R) := by
  refine enter_fr Tryd.func21 rfl Tryd.ntmps21 (by simp) fun ac (FF : Fr 19 ac [(0, .pointer (some ⟨b, 0, none⟩)), (1, .string (bs Y))]) => ?_
  refine wp_seq (rg_seq FF M [o_, o_] [0, 1, 4, 5] (fun Kt => Kt [(5, .nilIface), (4, .int .i64 (0 : Nat)), (0, .pointer (some ⟨b, 0, none⟩)), (1, .string (bs Y))] ((b, .cells (#[p, .slice q n c] : Array Value) 54) :: L)) (by kernel_rfl) (fun _ => by kernel_rfl) (fun ac1 wd1 FF1 MM1 => then_n ?_))
  refine wp_seq (rg_seq FF1 MM1 [o_, c_ (.tuple #[]) [(0, .cells (#[.pointer (some ⟨b, 0, none⟩), .slice q n c] : Array Value) 54)]] [5, 4, 0, 1] (fun Kt => CallU Tryd.prog 26 [.pointer (some ⟨b, 0, none⟩)] ((b, .cells (#[p, .slice q n c] : Array Value) 54) :: L) (.tuple #[]) [(0, .cells (#[.pointer (some ⟨b, 0, none⟩), .slice q n c] : Array Value) 54)] ∧ Kt [(5, .nilIface), (4, .int .i64 (0 : Nat)), (0, .pointer (some ⟨b, 0, none⟩)), (1, .string (bs Y))] ((b, .cells (#[.pointer (some ⟨b, 0, none⟩), .slice q n c] : Array Value) 54) :: L)) (by kernel_rfl) (fun _ => by kernel_rfl) (⟨⟨en_copychk, fun w H => copychk_any _ _ _ 0 hp _ rfl w H⟩, fun ac2 wd2 FF2 MM2 => then_n ?_⟩))
  refine wp_seq (wp_region_list ?_)
  refine rg_part 6 FF2 MM2 [o_, o_, o_, o_, l_ 0 (.slice q n c), o_] [5, 4, 0, 1, 8, 12, 13] (fun Kt => b = b ∧ (#[.pointer (some ⟨b, 0, none⟩), .slice q n c] : Array Value)[1]? = some (.slice q n c) ∧ Kt [(13, .string (bs Y)), (12, .slice q n c), (8, .pointer (some ⟨b, 0, none⟩)), (5, .nilIface), (4, .int .i64 (0 : Nat)), (0, .pointer (some ⟨b, 0, none⟩)), (1, .string (bs Y))] ((b, .cells (#[.pointer (some ⟨b, 0, none⟩), .slice q n c] : Array Value) 54) :: L)) (by kernel_rfl) (fun _ => by kernel_rfl) (⟨rfl, rfl, fun ac3 wd3 FF3 MM3 => ?_⟩)
  refine st_appStr [8, 5, 4, 0, 1, 14] FF3 MM3 (d := 14) (s := 12) (Y := Y) rfl rfl rfl hY Tryd.underlying49 Tryd.underlying9 (by kernel_rfl) hb rfl rfl (by decide) fun ac6 wd6 rq4 rc5 (FF6 : Fr 19 ac6 [(14, .slice rq4 (n + Y.length) rc5), (8, .pointer (some ⟨b, 0, none⟩)), (5, .nilIface), (4, .int .i64 (0 : Nat)), (0, .pointer (some ⟨b, 0, none⟩)), (1, .string (bs Y))]) (MM6 : MemS S w0 wd6 ((b, .cells (#[.pointer (some ⟨b, 0, none⟩), .slice q n c] : Array Value) 54) :: L) ((.slice rq4 (n + Y.length) rc5, 5, 1, (n + Y.length), (X ++ bcells Y)) :: R)) => ?_
  refine rg_part 3 FF6 MM6 [o_, o_, s_ 0 (.cells (#[.pointer (some ⟨b, 0, none⟩), .slice rq4 (n + Y.length) rc5] : Array Value) 54)] [5, 4, 0, 1] (fun Kt => b = b ∧ 1 < (#[.pointer (some ⟨b, 0, none⟩), .slice q n c] : Array Value).size ∧ (((0, 0)).2 = 0 ∨ 1 < ((0, 0)).1) ∧ (#[.pointer (some ⟨b, 0, none⟩), .slice q n c] : Array Value).setIfInBounds 1 (.slice rq4 (n + Y.length) rc5) = #[.pointer (some ⟨b, 0, none⟩), .slice rq4 (n + Y.length) rc5] ∧ Kt [(5, .nilIface), (4, .int .i64 (0 : Nat)), (0, .pointer (some ⟨b, 0, none⟩)), (1, .string (bs Y))] ((b, .cells (#[.pointer (some ⟨b, 0, none⟩), .slice rq4 (n + Y.length) rc5] : Array Value) 54) :: L)) (by kernel_rfl) (fun _ => by kernel_rfl) (⟨rfl, (by simp), (.inl rfl), rfl, fun ac7 wd7 FF7 MM7 => ?_⟩)
  refine wpl_nil (then_n ?_)
  refine wp_seq (rg_seq FF7 MM7 [o_, t_ (.int .i64 (Y.length : Nat)), o_, o_] [5, 4, 0, 1] (fun Kt => Value.int .i64 ((bs Y).size : Nat) = .int .i64 (Y.length : Nat) ∧ Kt [(5, .nilIface), (4, .int .i64 (Y.length : Nat)), (0, .pointer (some ⟨b, 0, none⟩)), (1, .string (bs Y))] ((b, .cells (#[.pointer (some ⟨b, 0, none⟩), .slice rq4 (n + Y.length) rc5] : Array Value) 54) :: L)) (by kernel_rfl) (fun _ => by kernel_rfl) (⟨(vI (bs_size _)), fun ac8 wd8 FF8 MM8 => then_n ?_⟩))
  refine wp_ret ?_
  repeat first | refine then_ret ?_ | refine inb_ret ?_
  exact (ret_tup2 FF8 1 0 Tryd.results21 rfl rfl ⟨rfl, ⟨_, _, MM8⟩⟩)
set_option maxRecDepth 100000 in
theorem bstring_nil {S : Nat → Prop} {w0 : World} {L : Blks} {R : List Row} {p : Value} {b : Nat} (w : World) (M : MemS S w0 w ((b, .cells #[p, .slice none 0 0] 54) :: L) R) :
    Calls Tryd.prog 23 #[.pointer (some ⟨b, 0, none⟩)] w fun e w' => e = .returned (.string (bs [])) ∧ MemS S w0 w' ((b, .cells #[p, .slice none 0 0] 54) :: L) R := by
  refine enter_fr Tryd.func23 rfl Tryd.ntmps23 (by simp) fun ac (FF : Fr 14 ac [(0, .pointer (some ⟨b, 0, none⟩))]) => ?_
  refine wp_seq (rg_seq FF M [o_] [0, 2] (fun Kt => Kt [(2, .string (bs [])), (0, .pointer (some ⟨b, 0, none⟩))] ((b, .cells (#[p, .slice none 0 0] : Array Value) 54) :: L)) (by kernel_rfl) (fun _ => by kernel_rfl) (fun ac1 wd1 FF1 MM1 => then_n ?_))
  refine wp_seq (rg_draw FF1 MM1 [.inl (.pointer (some ⟨b, 0, none⟩)), .inl (.pointer (some ⟨b, 0, none⟩)), .inl (.pointer (some ⟨b, 1, none⟩)), .inl (.slice none 0 0), .inl (.pointer none), .inl (.pointer (some ⟨b, 0, none⟩)), .inl (.pointer (some ⟨b, 0, none⟩)), .inl (.pointer (some ⟨b, 1, none⟩)), .inl (.slice none 0 0), .inl (.int .i64 (0 : Nat)), .inl (.string (bs [])), .inl (.string (bs []))] [] [o_, o_, o_, l_ 0 (.slice none 0 0), f_ (.pointer none), o_, o_, o_, l_ 0 (.slice none 0 0), o_, f_ (.string (bs [])), o_] [] [2] (fun nb => [b = b, (#[p, .slice none 0 0] : Array Value)[1]? = some (.slice none 0 0), RunV Tryd.prog [(6, .slice none 0 0), (0, .pointer (some ⟨b, 0, none⟩))] ((b, .cells (#[p, .slice none 0 0] : Array Value) 54) :: L) (opAt Tryd.f23 1 4) (.pointer none), b = b, (#[p, .slice none 0 0] : Array Value)[1]? = some (.slice none 0 0), RunV Tryd.prog [(7, .pointer none), (12, .int .i64 (0 : Nat)), (0, .pointer (some ⟨b, 0, none⟩))] ((b, .cells (#[p, .slice none 0 0] : Array Value) 54) :: L) (opAt Tryd.f23 1 10) (.string (bs []))]) (fun nb Kt => Kt [(2, .string (bs []))] ((b, .cells (#[p, .slice none 0 0] : Array Value) 54) :: L)) (by kernel_rfl) (by kernel_rfl) (by kernel_rfl) (fun _ => by kernel_rfl) (fun _ _ => by kernel_rfl) trivial (fun nb => ⟨rfl, rfl, (sdNil_ok (t := 49) (x := .tmp 6) (by kernel_rfl) rfl), rfl, rfl, (usNil_ok (t := 66) (u := 3) (x := .tmp 7) (y := .tmp 12) (by kernel_rfl) rfl rfl), trivial⟩) (fun nb => fun ac2 wd2 FF2 MM2 => then_n ?_))
  refine wp_ret ?_
  repeat first | refine then_ret ?_ | refine inb_ret ?_
  exact (ret_fr FF2 0 Tryd.results23 rfl ⟨rfl, MM2⟩)
set_option maxRecDepth 100000 in
theorem bstring_row {S : Nat → Prop} {w0 : World} {L : Blks} {R : List Row} {p : Value} {b : Nat} {g c : Nat} {cur : Array Value} {X : List Nat} (h0 : 0 < X.length) (hX : ∀ i, X.getD i 0 < 256) (hn : X.length ≤ cur.size) (h63 : X.length ≤ 9223372036854775807) (hc : c ≠ 0) (hcs : ∀ j, j < X.length → cur[j]? = some (.int .u8 (X.getD j 0 : Nat))) (w : World) (M : MemS S w0 w ((g, .cells cur 5) :: (b, .cells #[p, .slice (some ⟨g, 0, none⟩) X.length c] 54) :: L) R) :
    Calls Tryd.prog 23 #[.pointer (some ⟨b, 0, none⟩)] w fun e w' => e = .returned (.string (bs X)) ∧ MemS S w0 w' ((b, .cells #[p, .slice (some ⟨g, 0, none⟩) X.length c] 54) :: L) R := by
  refine enter_fr Tryd.func23 rfl Tryd.ntmps23 (by simp) fun ac (FF : Fr 14 ac [(0, .pointer (some ⟨b, 0, none⟩))]) => ?_
  refine wp_seq (rg_seq FF M [o_] [0, 2] (fun Kt => Kt [(2, .string (bs [])), (0, .pointer (some ⟨b, 0, none⟩))] ((g, .cells cur 5) :: (b, .cells (#[p, .slice (some ⟨g, 0, none⟩) X.length c] : Array Value) 54) :: L)) (by kernel_rfl) (fun _ => by kernel_rfl) (fun ac1 wd1 FF1 MM1 => then_n ?_))
  refine wp_seq (rg_draw FF1 MM1 [.inl (.pointer (some ⟨b, 0, none⟩)), .inl (.pointer (some ⟨b, 0, none⟩)), .inl (.pointer (some ⟨b, 1, none⟩)), .inl (.slice (some ⟨g, 0, none⟩) X.length c), .inl (.pointer (some ⟨g, 0, none⟩)), .inl (.pointer (some ⟨b, 0, none⟩)), .inl (.pointer (some ⟨b, 0, none⟩)), .inl (.pointer (some ⟨b, 1, none⟩)), .inl (.slice (some ⟨g, 0, none⟩) X.length c), .inl (.int .i64 (X.length : Nat))] [] [o_, o_, o_, l_ 1 (.slice (some ⟨g, 0, none⟩) X.length c), f_ (.pointer (some ⟨g, 0, none⟩)), o_, o_, o_, l_ 1 (.slice (some ⟨g, 0, none⟩) X.length c), o_] [r_ (.string (bs X)) [(0, .cells cur 5 (0, X.length))], o_] [2] (fun nb => [b = b, (#[p, .slice (some ⟨g, 0, none⟩) X.length c] : Array Value)[1]? = some (.slice (some ⟨g, 0, none⟩) X.length c), RunV Tryd.prog [(6, .slice (some ⟨g, 0, none⟩) X.length c), (2, .string (bs [])), (0, .pointer (some ⟨b, 0, none⟩))] ((g, .cells cur 5) :: (b, .cells (#[p, .slice (some ⟨g, 0, none⟩) X.length c] : Array Value) 54) :: L) (opAt Tryd.f23 1 4) (.pointer (some ⟨g, 0, none⟩)), b = b, (#[p, .slice (some ⟨g, 0, none⟩) X.length c] : Array Value)[1]? = some (.slice (some ⟨g, 0, none⟩) X.length c)]) (fun nb Kt => RunU Tryd.prog [(12, .int .i64 (X.length : Nat)), (11, .slice (some ⟨g, 0, none⟩) X.length c), (10, .pointer (some ⟨b, 1, none⟩)), (9, .pointer (some ⟨b, 0, none⟩)), (8, .pointer (some ⟨b, 0, none⟩)), (7, .pointer (some ⟨g, 0, none⟩)), (6, .slice (some ⟨g, 0, none⟩) X.length c), (5, .pointer (some ⟨b, 1, none⟩)), (4, .pointer (some ⟨b, 0, none⟩)), (3, .pointer (some ⟨b, 0, none⟩)), (2, .string (bs [])), (0, .pointer (some ⟨b, 0, none⟩))] ((g, .cells cur 5) :: (b, .cells (#[p, .slice (some ⟨g, 0, none⟩) X.length c] : Array Value) 54) :: L) (opAt Tryd.f23 1 10) (.string (bs X)) [(0, .cells cur 5 (0, X.length))] ∧ Kt [(2, .string (bs X))] ((g, .cells cur 5 (0, X.length)) :: (b, .cells (#[p, .slice (some ⟨g, 0, none⟩) X.length c] : Array Value) 54) :: L)) (by kernel_rfl) (by kernel_rfl) (by kernel_rfl) (fun _ => by kernel_rfl) (fun _ _ => by kernel_rfl) trivial (fun nb => ⟨rfl, rfl, (sdRow_ok (t := 49) (x := .tmp 6) (by kernel_rfl) rfl hc), rfl, rfl, trivial⟩) (fun nb => ⟨(usRow_ok (t := 66) (u := 3) (e := 5) (i := 0) (x := .tmp 7) (y := .tmp 12) (by kernel_rfl) rfl rfl Tryd.underlying66 (by kernel_rfl) rfl h0 hX hn h63 hcs), fun ac2 wd2 FF2 MM2 => then_n ?_⟩))
  refine wp_ret ?_
  repeat first | refine then_ret ?_ | refine inb_ret ?_
  exact (ret_fr FF2 0 Tryd.results23 rfl ⟨rfl, MM2.dropAt 0⟩)
theorem bstring_any {S : Nat → Prop} {w0 : World} {L : Blks} {R : List Row} {p : Value} {q : Option Addr} {b n c : Nat} {X : List Nat} (hX : ∀ i, X.getD i 0 < 256) (hq : 0 < n ∨ q = none) (w : World)
    (M : MemS S w0 w ((b, .cells #[p, .slice q n c] 54) :: L) ((.slice q n c, 5, 1, n, bcells X) :: R)) :
    Calls Tryd.prog 23 #[.pointer (some ⟨b, 0, none⟩)] w fun e w' => e = .returned (.string (bs X)) ∧ MemS S w0 w' ((b, .cells #[p, .slice q n c] 54) :: L) R := by
  have hown : w.ownsRow w0.heap.size 5 1 (.slice q n c) n (bcells X) := M.rows _ (List.mem_cons_self ..)
  have hl : X.length = n := by have := hown.1; simpa [bcells] using this
  subst hl
  rcases hown.2 with ⟨h1, h2⟩ | ⟨g, cap, cur, h1, _⟩
  · simp only [Value.slice.injEq] at h1
    obtain ⟨rfl, _, rfl⟩ := h1
    obtain rfl : X = [] := List.eq_nil_of_length_eq_zero h2
    exact bstring_nil w M.dropRow
  · simp only [Value.slice.injEq] at h1
    obtain ⟨rfl, _, rfl⟩ := h1
    have h0 : 0 < X.length := hq.resolve_right (by simp)
    obtain ⟨cur, M', _, h4, h5, h6, h7, _⟩ := M.freeze
    rw [Nat.mul_one] at h6 h7
    refine bstring_row h0 hX (by omega) (by simp only [maxLen] at h5; omega) (by omega) (fun j hj => ?_) w M'
    have e1 := congrArg (fun l => l[j]?) h7
    simp only [List.getElem?_take, if_pos hj] at e1
    rw [show cur[j]? = cur.toList[j]? by simp, e1]
    simp [bcells, hj]

end Go.Proofs.YtkpindnekaijfaaDoor
