/- Package derive: lowest, Pack. -/
import Derived.Test.YtkpindnekaijfaaDoorD1
namespace Go.Proofs.YtkpindnekaijfaaDoor
open Go.RowKit

set_option maxRecDepth 100000 in
theorem lowest_any (n k : Nat) (hn : n < 18446744073709551616) (hk : k ≤ 8) (w0 : World) :
    Calls Tryd.prog 22 #[.int .u64 (n : Nat), .int .i64 (k : Nat)] w0 fun e w' => e = .returned (.string (bs (leN k n))) ∧ Below w0.heap.size w0 w' := by
  refine enter_fr Tryd.func22 rfl Tryd.ntmps22 (by simp) fun ac (FF : Fr 25 ac [(0, .int .u64 (n : Nat)), (1, .int .i64 (k : Nat))]) => ?_
  have MM := MemS.start w0
  refine wp_seq (rg_seq FF MM [o_] [0, 1, 4] (fun Kt => Kt [(4, .string (bs [])), (0, .int .u64 (n : Nat)), (1, .int .i64 (k : Nat))] []) (by kernel_rfl) (fun _ => by kernel_rfl) (fun ac1 wd1 FF1 MM1 => then_n ?_))
  refine wp_seq (rg_seq FF1 MM1 [o_, n_ (.slice none k k) (.cells (cn .u8 (List.replicate k 0)) 5), o_] [4, 0, 5] (fun Kt => RunN Tryd.prog [(7, .int .i64 (k : Nat)), (4, .string (bs [])), (0, .int .u64 (n : Nat)), (1, .int .i64 (k : Nat))] [] (opAt Tryd.f22 1 1) (mkOf (.slice none k k)) (.cells (cn .u8 (List.replicate k 0)) 5) ∧ ∀ bl, Kt [(5, .slice (some ⟨bl, 0, none⟩) k k), (4, .string (bs [])), (0, .int .u64 (n : Nat))] [(bl, .cells (cn .u8 (List.replicate k 0)) 5)]) (by kernel_rfl) (fun _ => by kernel_rfl) (⟨(make_ok (t := 49) (e := 5) (p := (.tmp 7)) (q := (.tmp 7)) (by kernel_rfl) rfl rfl Tryd.underlying49 (by kernel_rfl) (by have := hk; omega)), fun bl => fun ac2 wd2 FF2 MM2 => then_n ?_⟩))
  have MMr4 : MemS (fun k => k < w0.heap.size) w0 wd2 [(bl, .cells (cn .u8 (genL k (leF n) 0)) 5)] [] := by rw [← genL_zero k (leF n)]; exact MM2
  refine wp_seq ?_
  refine wp_seq (rg_seq FF2 MMr4 [o_, o_, o_] [5, 4, 0, 10, 11] (fun Kt => Kt [(11, .int .i64 (0 : Nat)), (10, .int .i64 (k : Nat)), (5, .slice (some ⟨bl, 0, none⟩) k k), (4, .string (bs [])), (0, .int .u64 (n : Nat))] [(bl, .cells (cn .u8 (genL k (leF n) 0)) 5)]) (by kernel_rfl) (fun _ => by kernel_rfl) (fun ac3 wd3 FF3 MM3 => then_n ?_))
  refine wp_for (fun a' w' => ∃ i : Nat, i ≤ k ∧ Fr 25 a' [(11, .int .i64 (i : Nat)), (10, .int .i64 (k : Nat)), (5, .slice (some ⟨bl, 0, none⟩) k k), (4, .string (bs [])), (0, .int .u64 (n : Nat))] ∧ MemS (fun k => k < w0.heap.size) w0 w' [(bl, .cells (cn .u8 (genL k (leF n) i)) 5)] []) (fun a' _ => (k - cnt 11 a').toNat) ⟨0, Nat.zero_le _, FF3.pick [0, 1, 2, 3, 4], MM3⟩ ?_
  rintro ac4 wd4 ⟨i, hi, FF4, MM4⟩
  have hc := cnt_of (FF4.get 0 rfl)
  refine rg_seq FF4 MM4 [o_] [11, 10, 5, 4, 0, 12] (fun Kt => Kt [(12, .bool (decide (i < k))), (11, .int .i64 (i : Nat)), (10, .int .i64 (k : Nat)), (5, .slice (some ⟨bl, 0, none⟩) k k), (4, .string (bs [])), (0, .int .u64 (n : Nat))] [(bl, .cells (cn .u8 (genL k (leF n) i)) 5)]) (by kernel_rfl) (fun _ => by kernel_rfl) (fun ac5 wd5 FF5 MM5 => ?_)
  by_cases hlt : i < k
  · skip
    refine then_n (.inl ⟨(FF5.ev 0 rfl).trans (dec_t hlt), ?_⟩)
    refine wp_seq (rg_seq FF5 MM5 [o_, o_] [11, 10, 5, 4, 0, 6] (fun Kt => Kt [(6, .int .i64 (i : Nat)), (11, .int .i64 (i : Nat)), (10, .int .i64 (k : Nat)), (5, .slice (some ⟨bl, 0, none⟩) k k), (4, .string (bs [])), (0, .int .u64 (n : Nat))] [(bl, .cells (cn .u8 (genL k (leF n) i)) 5)]) (by kernel_rfl) (fun _ => by kernel_rfl) (fun ac6 wd6 FF6 MM6 => then_n ?_))
    refine rg_seq FF6 MM6 [o_, o_, o_, o_, o_, o_, t_ (.int .u8 (leF n i : Nat)), w_ 1, s_ 0 (.cells (cn .u8 (genL k (leF n) (i + 1))) 5)] [6, 11, 10, 5, 4, 0] (fun Kt => 8 * i < 9223372036854775808 ∧ 8 * i ≤ 64 ∧ Value.int .u8 ((n / (2 ^ (8 * i))) % 256 : Nat) = .int .u8 (leF n i : Nat) ∧ i < k ∧ bl = bl ∧ i < (cn .u8 (genL k (leF n) i)).size ∧ (((0, 0)).2 = 0 ∨ i < ((0, 0)).1) ∧ (cn .u8 (genL k (leF n) i)).setIfInBounds i (.int .u8 (leF n i : Nat)) = cn .u8 (genL k (leF n) (i + 1)) ∧ Kt [(6, .int .i64 (i : Nat)), (11, .int .i64 (i : Nat)), (10, .int .i64 (k : Nat)), (5, .slice (some ⟨bl, 0, none⟩) k k), (4, .string (bs [])), (0, .int .u64 (n : Nat))] [(bl, .cells (cn .u8 (genL k (leF n) (i + 1))) 5)]) (by kernel_rfl) (fun _ => by kernel_rfl) (⟨(by omega), (by have := hn; omega), rfl, (by omega), rfl, (by rw [cn_size, (genL_len _ _ _)]; have := hlt; omega), (.inl rfl), ((cn_set _ _ _ _).trans (congrArg _ (genL_step _ _ i hlt rfl))), fun ac7 wd7 FF7 MM7 => ?_⟩)
    refine inb_n (then_n ?_)
    refine rg_seq FF7 MM7 [o_, o_] [6, 11, 10, 5, 4, 0] (fun Kt => i + 1 < 9223372036854775808 ∧ Kt [(11, .int .i64 (i + 1 : Nat)), (6, .int .i64 (i : Nat)), (10, .int .i64 (k : Nat)), (5, .slice (some ⟨bl, 0, none⟩) k k), (4, .string (bs [])), (0, .int .u64 (n : Nat))] [(bl, .cells (cn .u8 (genL k (leF n) (i + 1))) 5)]) (by kernel_rfl) (fun _ => by kernel_rfl) (⟨(by omega), fun ac8 wd8 FF8 MM8 => ?_⟩)
    have hd := cnt_of (FF8.get 0 rfl)
    refine then_n ⟨⟨i + 1, by omega, FF8.pick [0, 2, 3, 4, 5], MM8⟩, ?_⟩
    rw [hc, hd]; omega
  · skip
    refine then_n (.inr ⟨(FF5.ev 0 rfl).trans (dec_f hlt), ?_⟩)
    obtain rfl : i = k := by omega
    refine then_n ?_
    refine wp_seq (rg_seq FF5 MM5 [o_, l_ 0 (.string (bs (genL i (leF n) i))), o_] [11, 10, 5, 4, 0] (fun Kt => bl = bl ∧ StrAt (cn .u8 (genL i (leF n) i)) 0 i (bs (genL i (leF n) i)) ∧ Kt [(4, .string (bs (genL i (leF n) i))), (11, .int .i64 (i : Nat)), (10, .int .i64 (i : Nat)), (5, .slice (some ⟨bl, 0, none⟩) i i), (0, .int .u64 (n : Nat))] [(bl, .cells (cn .u8 (genL i (leF n) i)) 5)]) (by kernel_rfl) (fun _ => by kernel_rfl) (⟨rfl, (str_all (genL_len _ _ _) (genL_lt (by decide) (leF_lt n) i)), fun ac9 wd9 FF9 MM9 => then_n ?_⟩))
    refine wp_ret ?_
    repeat first | refine then_ret ?_ | refine inb_ret ?_
    exact (ret_fr FF9 0 Tryd.results22 rfl ⟨rfl, MM9.below⟩)
set_option maxRecDepth 100000 in
theorem pack_some (Ps : List (List Nat)) (hP : ∀ X ∈ Ps, ∀ i, X.getD i 0 < 256) (hl : (packN Ps).length ≤ 140737488355328) (pb off cap T9 : Nat) (fr : Nat × Nat) (cs : Array Value) (hp0 : ∀ j, j < Ps.length → cs[off + j]? = some (.string (bs (Ps.getD j [])))) (w0 : World) (hb : w0.heap[pb]? = some (.cells cs T9 fr)) :
    Calls Tryd.prog 9 #[.slice (some ⟨pb, off, none⟩) Ps.length cap] w0 fun e w' => e = .returned (.string (bs (packN Ps))) ∧ Below w0.heap.size w0 w' := by
  have MM := MemS.start1 hb
  refine enter_fr Tryd.func9 rfl Tryd.ntmps9 (by simp) fun ac (FF : Fr 21 ac [(0, .slice (some ⟨pb, off, none⟩) Ps.length cap)]) => ?_
  refine wp_seq (rg_seq FF MM [o_] [0, 2] (fun Kt => Kt [(2, .string (bs [])), (0, .slice (some ⟨pb, off, none⟩) Ps.length cap)] [(pb, .cells cs T9 fr)]) (by kernel_rfl) (fun _ => by kernel_rfl) (fun ac1 wd1 FF1 MM1 => then_n ?_))
  refine wp_seq (rg_seq FF1 MM1 [o_] [2, 0, 3] (fun Kt => ∀ bd, Kt [(3, .pointer (some ⟨bd, 0, none⟩)), (2, .string (bs [])), (0, .slice (some ⟨pb, off, none⟩) Ps.length cap)] [(bd, .cells (#[.pointer none, .slice none 0 0] : Array Value) 54), (pb, .cells cs T9 fr)]) (by kernel_rfl) (fun _ => by kernel_rfl) (fun bd => fun ac2 wd2 FF2 MM2 => then_n ?_))
  refine wp_seq ?_
  have MMn := MM2.rowNil 5 1
  have MMo : MemS (fun k => k < w0.heap.size ∧ k ≠ pb) w0 wd2 [(bd, .cells (#[.pointer none, .slice none (packN (Ps.take 0)).length 0] : Array Value) 54), (pb, .cells cs T9 fr)] [(.slice none (packN (Ps.take 0)).length 0, 5, 1, (packN (Ps.take 0)).length, (bcells (packN (Ps.take 0))))] := MMn
  refine wp_seq (rg_seq FF2 MMo [o_, o_, o_] [3, 2, 6, 7, 8] (fun Kt => Kt [(8, .int .i64 (0 : Nat)), (7, .int .i64 (Ps.length : Nat)), (6, .slice (some ⟨pb, off, none⟩) Ps.length cap), (3, .pointer (some ⟨bd, 0, none⟩)), (2, .string (bs []))] [(bd, .cells (#[.pointer none, .slice none (packN (Ps.take 0)).length 0] : Array Value) 54), (pb, .cells cs T9 fr)]) (by kernel_rfl) (fun _ => by kernel_rfl) (fun ac3 wd3 FF3 MM3 => then_n ?_))
  refine wp_for (fun a' w' => ∃ i : Nat, ∃ p : Value, ∃ q : Option Addr, ∃ c : Nat, i ≤ Ps.length ∧ (p = .pointer none ∨ p = .pointer (some ⟨bd, 0, none⟩)) ∧ (0 < i ∨ q = none) ∧ Fr 21 a' [(8, .int .i64 (i : Nat)), (7, .int .i64 (Ps.length : Nat)), (6, .slice (some ⟨pb, off, none⟩) Ps.length cap), (3, .pointer (some ⟨bd, 0, none⟩)), (2, .string (bs []))] ∧ MemS (fun k => k < w0.heap.size ∧ k ≠ pb) w0 w' [(bd, .cells (#[p, .slice q (packN (Ps.take i)).length c] : Array Value) 54), (pb, .cells cs T9 fr)] [(.slice q (packN (Ps.take i)).length c, 5, 1, (packN (Ps.take i)).length, (bcells (packN (Ps.take i))))]) (fun a' _ => (Ps.length - cnt 8 a').toNat) ⟨0, .pointer none, none, 0, Nat.zero_le _, .inl rfl, .inr rfl, FF3.pick [0, 1, 2, 3, 4], MM3⟩ ?_
  rintro ac4 wd4 ⟨i, p, q, c, hi, hp, hq, FF4, MM4⟩
  have hc := cnt_of (FF4.get 0 rfl)
  refine rg_seq FF4 MM4 [o_] [8, 7, 6, 3, 2, 9] (fun Kt => Kt [(9, .bool (decide (i < Ps.length))), (8, .int .i64 (i : Nat)), (7, .int .i64 (Ps.length : Nat)), (6, .slice (some ⟨pb, off, none⟩) Ps.length cap), (3, .pointer (some ⟨bd, 0, none⟩)), (2, .string (bs []))] [(bd, .cells (#[p, .slice q (packN (Ps.take i)).length c] : Array Value) 54), (pb, .cells cs T9 fr)]) (by kernel_rfl) (fun _ => by kernel_rfl) (fun ac5 wd5 FF5 MM5 => ?_)
  by_cases hlt : i < Ps.length
  · skip
    refine then_n (.inl ⟨(FF5.ev 0 rfl).trans (dec_t hlt), ?_⟩)
    have hXl := getD_lt hP hlt
    have hpl := packN_len Ps
    have hle := packN_le Ps (i + 1)
    rw [packN_take Ps i hlt] at hle
    simp only [List.length_append, leN_len] at hle
    refine wp_seq (rg_seq FF5 MM5 [o_, l_ 1 (.string (bs (Ps.getD i []))), o_] [8, 7, 6, 3, 2, 5] (fun Kt => i < Ps.length ∧ pb = pb ∧ cs[off + i]? = some (.string (bs (Ps.getD i []))) ∧ Kt [(5, .string (bs (Ps.getD i []))), (8, .int .i64 (i : Nat)), (7, .int .i64 (Ps.length : Nat)), (6, .slice (some ⟨pb, off, none⟩) Ps.length cap), (3, .pointer (some ⟨bd, 0, none⟩)), (2, .string (bs []))] [(bd, .cells (#[p, .slice q (packN (Ps.take i)).length c] : Array Value) 54), (pb, .cells cs T9 fr)]) (by kernel_rfl) (fun _ => by kernel_rfl) (⟨(by omega), rfl, (hp0 i hlt), fun ac6 wd6 FF6 MM6 => then_n ?_⟩))
    refine wp_seq (wp_region_list ?_)
    refine rg_part 4 FF6 MM6 [o_, t_ (.int .i64 ((Ps.getD i []).length : Nat)), w_ 1, t_ (.string (bs (leN 4 ((Ps.getD i []).length))))] [5, 8, 7, 6, 3, 2, 15] (fun Kt => Value.int .i64 ((bs (Ps.getD i [])).size : Nat) = .int .i64 ((Ps.getD i []).length : Nat) ∧ ((Ps.getD i []).length) < 18446744073709551616 ∧ CallP Tryd.prog 22 [.int .u64 ((Ps.getD i []).length : Nat), .int .i64 (4 : Nat)] [] (.string (bs (leN 4 ((Ps.getD i []).length)))) ∧ Kt [(15, .string (bs (leN 4 ((Ps.getD i []).length)))), (5, .string (bs (Ps.getD i []))), (8, .int .i64 (i : Nat)), (7, .int .i64 (Ps.length : Nat)), (6, .slice (some ⟨pb, off, none⟩) Ps.length cap), (3, .pointer (some ⟨bd, 0, none⟩)), (2, .string (bs []))] [(bd, .cells (#[p, .slice q (packN (Ps.take i)).length c] : Array Value) 54), (pb, .cells cs T9 fr)]) (by kernel_rfl) (fun _ => by kernel_rfl) (⟨(vI (bs_size _)), (by omega), (callP_of en_lowest (lowest_any ((Ps.getD i []).length) 4 (by omega) (by decide)) _), fun ac7 wd7 FF7 MM7 => ?_⟩)
    refine st_callM [5, 8, 7, 6, 3, 2, 16] FF7 (d := 16) en_bwrite rfl rfl (bwrite_any hp (leN_lt _ _) (by rw [leN_len]; omega) _ MM7) rfl (by kernel_rfl) (by decide) fun ac8 wd8 (FF8 : Fr 21 ac8 [(16, .tuple #[.int .i64 ((leN 4 (Ps.getD i []).length).length : Nat), .nilIface]), (5, .string (bs (Ps.getD i []))), (8, .int .i64 (i : Nat)), (7, .int .i64 (Ps.length : Nat)), (6, .slice (some ⟨pb, off, none⟩) Ps.length cap), (3, .pointer (some ⟨bd, 0, none⟩)), (2, .string (bs []))]) hr9 => ?_
    obtain ⟨rq10, rc11, MM8⟩ := hr9
    have MM8 : MemS (fun k => k < w0.heap.size ∧ k ≠ pb) w0 wd8 [(bd, .cells (#[.pointer (some ⟨bd, 0, none⟩), .slice rq10 ((packN (Ps.take i)).length + (leN 4 (Ps.getD i []).length).length) rc11] : Array Value) 54), (pb, .cells cs T9 fr)] [(.slice rq10 ((packN (Ps.take i)).length + (leN 4 (Ps.getD i []).length).length) rc11, 5, 1, ((packN (Ps.take i)).length + (leN 4 (Ps.getD i []).length).length), ((bcells (packN (Ps.take i))) ++ bcells (leN 4 (Ps.getD i []).length)))] := MM8
    refine wpl_nil (then_n ?_)
    refine wp_region_list ?_
    refine rg_part 1 FF8 MM8 [o_] [5, 8, 7, 6, 3, 2, 17] (fun Kt => Kt [(17, .string (bs (Ps.getD i []))), (5, .string (bs (Ps.getD i []))), (8, .int .i64 (i : Nat)), (7, .int .i64 (Ps.length : Nat)), (6, .slice (some ⟨pb, off, none⟩) Ps.length cap), (3, .pointer (some ⟨bd, 0, none⟩)), (2, .string (bs []))] [(bd, .cells (#[.pointer (some ⟨bd, 0, none⟩), .slice rq10 ((packN (Ps.take i)).length + (leN 4 (Ps.getD i []).length).length) rc11] : Array Value) 54), (pb, .cells cs T9 fr)]) (by kernel_rfl) (fun _ => by kernel_rfl) (fun ac12 wd12 FF12 MM12 => ?_)
    refine st_callM [5, 8, 7, 6, 3, 2, 18] FF12 (d := 18) en_bwrite rfl rfl (bwrite_any (.inr rfl) hXl (by rw [leN_len]; omega) _ MM12) rfl (by kernel_rfl) (by decide) fun ac13 wd13 (FF13 : Fr 21 ac13 [(18, .tuple #[.int .i64 ((Ps.getD i []).length : Nat), .nilIface]), (5, .string (bs (Ps.getD i []))), (8, .int .i64 (i : Nat)), (7, .int .i64 (Ps.length : Nat)), (6, .slice (some ⟨pb, off, none⟩) Ps.length cap), (3, .pointer (some ⟨bd, 0, none⟩)), (2, .string (bs []))]) hr14 => ?_
    obtain ⟨rq15, rc16, MM13⟩ := hr14
    have MM13 : MemS (fun k => k < w0.heap.size ∧ k ≠ pb) w0 wd13 [(bd, .cells (#[.pointer (some ⟨bd, 0, none⟩), .slice rq15 (((packN (Ps.take i)).length + (leN 4 (Ps.getD i []).length).length) + (Ps.getD i []).length) rc16] : Array Value) 54), (pb, .cells cs T9 fr)] [(.slice rq15 (((packN (Ps.take i)).length + (leN 4 (Ps.getD i []).length).length) + (Ps.getD i []).length) rc16, 5, 1, (((packN (Ps.take i)).length + (leN 4 (Ps.getD i []).length).length) + (Ps.getD i []).length), (((bcells (packN (Ps.take i))) ++ bcells (leN 4 (Ps.getD i []).length)) ++ bcells (Ps.getD i [])))] := MM13
    refine wpl_nil ?_
    refine inb_n (then_n ?_)
    refine rg_seq FF13 MM13 [o_, o_] [5, 8, 7, 6, 3, 2] (fun Kt => i + 1 < 9223372036854775808 ∧ Kt [(8, .int .i64 (i + 1 : Nat)), (5, .string (bs (Ps.getD i []))), (7, .int .i64 (Ps.length : Nat)), (6, .slice (some ⟨pb, off, none⟩) Ps.length cap), (3, .pointer (some ⟨bd, 0, none⟩)), (2, .string (bs []))] [(bd, .cells (#[.pointer (some ⟨bd, 0, none⟩), .slice rq15 (((packN (Ps.take i)).length + (leN 4 (Ps.getD i []).length).length) + (Ps.getD i []).length) rc16] : Array Value) 54), (pb, .cells cs T9 fr)]) (by kernel_rfl) (fun _ => by kernel_rfl) (⟨(by omega), fun ac17 wd17 FF17 MM17 => ?_⟩)
    have hst := packN_take Ps i hlt
    have e1 : (packN (Ps.take i)).length + (leN 4 (Ps.getD i []).length).length + (Ps.getD i []).length = (packN (Ps.take (i + 1))).length := by rw [hst]; simp only [List.length_append]
    have e2 : bcells (packN (Ps.take i)) ++ bcells (leN 4 (Ps.getD i []).length) ++ bcells (Ps.getD i []) = bcells (packN (Ps.take (i + 1))) := by rw [hst, bcells_app, bcells_app]
    rw [e1, e2] at MM17
    have hd := cnt_of (FF17.get 0 rfl)
    refine then_n ⟨⟨i + 1, .pointer (some ⟨bd, 0, none⟩), rq15, rc16, by omega, .inr rfl, .inl (Nat.succ_pos _), FF17.pick [0, 2, 3, 4, 5], MM17⟩, ?_⟩
    rw [hc, hd]; omega
  · skip
    refine then_n (.inr ⟨(FF5.ev 0 rfl).trans (dec_f hlt), ?_⟩)
    have hie : i = Ps.length := by omega
    subst hie
    rw [List.take_length] at MM5
    refine then_n ?_
    refine wp_seq (wp_region_list ?_)
    refine st_callM [8, 7, 6, 3, 2, 20] FF5 (d := 20) en_bstring rfl rfl (bstring_any (packN_lt hP) (hq.imp_left fun h => by rw [packN_len]; omega) _ MM5) rfl (by kernel_rfl) (by decide) fun ac18 wd18 (FF18 : Fr 21 ac18 [(20, .string (bs (packN Ps))), (8, .int .i64 (Ps.length : Nat)), (7, .int .i64 (Ps.length : Nat)), (6, .slice (some ⟨pb, off, none⟩) Ps.length cap), (3, .pointer (some ⟨bd, 0, none⟩)), (2, .string (bs []))]) hr19 => ?_
    have MM18 : MemS (fun k => k < w0.heap.size ∧ k ≠ pb) w0 wd18 [(bd, .cells (#[p, .slice q (packN Ps).length c] : Array Value) 54), (pb, .cells cs T9 fr)] [] := hr19
    refine rg_part 1 FF18 MM18 [o_] [8, 7, 6, 3, 2] (fun Kt => Kt [(2, .string (bs (packN Ps))), (8, .int .i64 (Ps.length : Nat)), (7, .int .i64 (Ps.length : Nat)), (6, .slice (some ⟨pb, off, none⟩) Ps.length cap), (3, .pointer (some ⟨bd, 0, none⟩))] [(bd, .cells (#[p, .slice q (packN Ps).length c] : Array Value) 54), (pb, .cells cs T9 fr)]) (by kernel_rfl) (fun _ => by kernel_rfl) (fun ac20 wd20 FF20 MM20 => ?_)
    refine wpl_nil (then_n ?_)
    refine wp_ret ?_
    repeat first | refine then_ret ?_ | refine inb_ret ?_
    exact (ret_fr FF20 0 Tryd.results9 rfl ⟨rfl, MM20.below1 1 rfl hb⟩)
set_option maxRecDepth 100000 in
theorem pack_none (p : Option Addr) (cap : Nat) (w0 : World) :
    Calls Tryd.prog 9 #[.slice p 0 cap] w0 fun e w' => e = .returned (.string (bs [])) ∧ Below w0.heap.size w0 w' := by
  refine enter_fr Tryd.func9 rfl Tryd.ntmps9 (by simp) fun ac (FF : Fr 21 ac [(0, .slice p 0 cap)]) => ?_
  have MM := MemS.start w0
  refine wp_seq (rg_seq FF MM [o_] [0, 2] (fun Kt => Kt [(2, .string (bs [])), (0, .slice p 0 cap)] []) (by kernel_rfl) (fun _ => by kernel_rfl) (fun ac1 wd1 FF1 MM1 => then_n ?_))
  refine wp_seq (rg_seq FF1 MM1 [o_] [2, 0, 3] (fun Kt => ∀ bd, Kt [(3, .pointer (some ⟨bd, 0, none⟩)), (2, .string (bs [])), (0, .slice p 0 cap)] [(bd, .cells (#[.pointer none, .slice none 0 0] : Array Value) 54)]) (by kernel_rfl) (fun _ => by kernel_rfl) (fun bd => fun ac2 wd2 FF2 MM2 => then_n ?_))
  refine wp_seq ?_
  have MMn := MM2.rowNil 5 1
  have MMn : MemS (fun k => k < w0.heap.size) w0 wd2 [(bd, .cells (#[.pointer none, .slice none 0 0] : Array Value) 54)] [(.slice none 0 0, 5, 1, 0, (bcells []))] := MMn
  refine wp_seq (rg_seq FF2 MMn [o_, o_, o_] [3, 2, 6, 7, 8] (fun Kt => Kt [(8, .int .i64 (0 : Nat)), (7, .int .i64 (0 : Nat)), (6, .slice p 0 cap), (3, .pointer (some ⟨bd, 0, none⟩)), (2, .string (bs []))] [(bd, .cells (#[.pointer none, .slice none 0 0] : Array Value) 54)]) (by kernel_rfl) (fun _ => by kernel_rfl) (fun ac3 wd3 FF3 MM3 => then_n ?_))
  refine wp_for (fun a' w' => Fr 21 a' [(8, .int .i64 (0 : Nat)), (7, .int .i64 (0 : Nat)), (6, .slice p 0 cap), (3, .pointer (some ⟨bd, 0, none⟩)), (2, .string (bs []))] ∧ MemS (fun k => k < w0.heap.size) w0 w' [(bd, .cells (#[.pointer none, .slice none 0 0] : Array Value) 54)] [(.slice none 0 0, 5, 1, 0, (bcells []))]) (fun a' _ => 0) ⟨FF3.pick [0, 1, 2, 3, 4], MM3⟩ ?_
  rintro ac4 wd4 ⟨FF4, MM4⟩
  refine rg_seq FF4 MM4 [w_ 3] [8, 7, 6, 3, 2, 9] (fun Kt => ¬ (0 < 0) ∧ Kt [(9, .bool false), (8, .int .i64 (0 : Nat)), (7, .int .i64 (0 : Nat)), (6, .slice p 0 cap), (3, .pointer (some ⟨bd, 0, none⟩)), (2, .string (bs []))] [(bd, .cells (#[.pointer none, .slice none 0 0] : Array Value) 54)]) (by kernel_rfl) (fun _ => by kernel_rfl) (⟨(by decide), fun ac5 wd5 FF5 MM5 => ?_⟩)
  refine then_n (.inr ⟨FF5.ev 0 rfl, ?_⟩)
  refine then_n ?_
  refine wp_seq (wp_region_list ?_)
  refine st_callM [8, 7, 6, 3, 2, 20] FF5 (d := 20) en_bstring rfl rfl (bstring_any nil_lt (.inr rfl) _ MM5) rfl (by kernel_rfl) (by decide) fun ac6 wd6 (FF6 : Fr 21 ac6 [(20, .string (bs [])), (8, .int .i64 (0 : Nat)), (7, .int .i64 (0 : Nat)), (6, .slice p 0 cap), (3, .pointer (some ⟨bd, 0, none⟩)), (2, .string (bs []))]) hr7 => ?_
  have MM6 : MemS (fun k => k < w0.heap.size) w0 wd6 [(bd, .cells (#[.pointer none, .slice none 0 0] : Array Value) 54)] [] := hr7
  refine rg_part 1 FF6 MM6 [o_] [8, 7, 6, 3, 2] (fun Kt => Kt [(2, .string (bs [])), (8, .int .i64 (0 : Nat)), (7, .int .i64 (0 : Nat)), (6, .slice p 0 cap), (3, .pointer (some ⟨bd, 0, none⟩))] [(bd, .cells (#[.pointer none, .slice none 0 0] : Array Value) 54)]) (by kernel_rfl) (fun _ => by kernel_rfl) (fun ac8 wd8 FF8 MM8 => ?_)
  refine wpl_nil (then_n ?_)
  refine wp_ret ?_
  repeat first | refine then_ret ?_ | refine inb_ret ?_
  exact (ret_fr FF8 0 Tryd.results9 rfl ⟨rfl, MM8.below⟩)
theorem pack_any (Ps : List (List Nat)) (hP : ∀ X ∈ Ps, ∀ i, X.getD i 0 < 256) (hl : (packN Ps).length ≤ 140737488355328) (p : Option Addr) (cap : Nat) (w0 : World) (h : StrsIn w0 p Ps) :
    Calls Tryd.prog 9 #[.slice p Ps.length cap] w0 fun e w' => e = .returned (.string (bs (packN Ps))) ∧ Below w0.heap.size w0 w' := by
  rcases h with rfl | ⟨b, off, cs, T, fr, rfl, hb, hc⟩
  · exact pack_none p cap w0
  · exact pack_some Ps hP hl b off cap T fr cs hc w0 hb

end Go.Proofs.YtkpindnekaijfaaDoor
