/- Several texts in one: The library: decimal digits of a word. The library: a row of noughts as a text. Package nat: rows trimmed, numbers of a word, of bytes. Package nat: what a number is, which is less. Rows of words that a walk owns: as cells, as blocks; sums and differences of words. Package nat: a copy of a row. Numbers as groups of decimal digits, the lowest first. No program in this text. Words divided by a group; groups of decimal digits. No program in this text. Package nat: a row divided by a group. What strings.Builder's own text does: a pointer held against nil and against itself, turned to a bare pointer and back; a row's bytes as a string. -/
import Derived.Test.YtdeiodcfblldgaaDoorZ4
import Derived.Shelf.Strconv.Itoa2
import Derived.Shelf.Spec.BitsCarry
import Derived.Test.YtdeiodcfblldgaaDoorZ3
import Derived.Laws.Externs
namespace Go.Proofs.YtdeiodcfblldgaaDoor
open Go.RowKit

/-- The table of the powers of ten lies there. -/
def TabIn (w : World) : Prop := CellsIn w (some ⟨2, 0, none⟩) 20 (fun j => .int .u64 (10 ^ j : Nat))
def TabO (O : Blks) : Prop := CellsO O (some ⟨2, 0, none⟩) 20 (fun j => .int .u64 (10 ^ j : Nat))
theorem TabO.at {w : World} {O : Blks} (h : TabO O) (H : Has w O) : TabIn w := CellsO.at h H
theorem TabO.mono {O O' : Blks} (h : TabO O) (hs : ∀ x ∈ O, x ∈ O') : TabO O' := CellsO.mono h hs
theorem TabIn.keep {w w' : World} (h : TabIn w) (hb : Below w.heap.size w w') : TabIn w' := CellsIn.keep h hb
theorem tab_O {w : World} (h : TabIn w) : ∃ O : Blks, Has w O ∧ O.Pairwise (fun x y => x.1 ≠ y.1) ∧ TabO O := by
  rcases h with h | ⟨b, cs, T, fr, h1, h2, h3⟩
  · cases h
  · refine ⟨[(b, .cells cs T fr)], fun i x hx => ?_, by simp, .inr ⟨b, cs, T, fr, h1, by simp, h3⟩⟩
    cases i with
    | zero => simp at hx; subst hx; exact h2
    | succ i => simp at hx
def ren10 : Go.Shelf.Ren := ⟨fun | 285 => 61 | n => n, fun | 37 => 63 | 53 => 71 | 3 => 3 | 4 => 4 | 51 => 106 | 9 => 9 | 5 => 5 | 0 => 0 | n => n, fun | n => n⟩
theorem lay10 : Go.Proofs.Lays.n285 Tryd.prog ren10 := {
  mixed := by kernel_rfl
  f285 := Tryd.func61.trans (congrArg some (by kernel_rfl))
  t37 := Tryd.underlying63
  a37 := Tryd.isAgg63
  z37 := Tryd.sizeOf63
  v37 := Tryd.zeroValue63
  t53 := Tryd.underlying71
  a53 := Tryd.isAgg71
  z53 := Tryd.sizeOf71
  v53 := Tryd.zeroValue71
  t3 := Tryd.underlying3
  a3 := Tryd.isAgg3
  z3 := Tryd.sizeOf3
  v3 := Tryd.zeroValue3
  t4 := Tryd.underlying4
  a4 := Tryd.isAgg4
  z4 := Tryd.sizeOf4
  v4 := Tryd.zeroValue4
  t51 := Tryd.underlying106
  a51 := Tryd.isAgg106
  z51 := Tryd.sizeOf106
  v51 := Tryd.zeroValue106
  t9 := Tryd.underlying9
  a9 := Tryd.isAgg9
  z9 := Tryd.sizeOf9
  v9 := Tryd.zeroValue9
  t5 := Tryd.underlying5
  a5 := Tryd.isAgg5
  z5 := Tryd.sizeOf5
  v5 := Tryd.zeroValue5
  t0 := Tryd.underlying0
  a0 := Tryd.isAgg0
  z0 := Tryd.sizeOf0
  v0 := Tryd.zeroValue0 }
theorem rep_get (n k : Nat) : (List.replicate n 0).getD k 0 = 0 := by rw [List.getD_eq_getElem?_getD, List.getElem?_replicate]; split <;> rfl
theorem put_dec {nd u v : Nat} {dk : Array UInt8} (h : nd ≤ 24) (hk : Lib.FmtInv nd u 0 v dk) : Go.Sort.putCells (fun (b : UInt8) => Value.int .u8 (b.toNat : Int)) 0 dk (cn .u8 (List.replicate 24 0)) = cn .u8 (decK nd u ++ List.replicate (24 - nd) 0) := by
  apply Array.ext_getElem?
  intro k
  have hs := hk.size
  simp only [Go.Sort.putCells, Array.getElem?_mapIdx]
  rcases Nat.lt_or_ge k 24 with h1 | h1
  · have e1 : (cn .u8 (List.replicate 24 0))[k]? = some (.int .u8 ((0 : Nat) : Int)) := by
      rw [cn_get _ _ _ (by rw [List.length_replicate]; exact h1), rep_get]
    have hl : (decK nd u ++ List.replicate (24 - nd) 0).length = 24 := by rw [List.length_append, decK_len, List.length_replicate]; omega
    rw [e1, cn_get _ _ _ (by rw [hl]; exact h1)]
    simp only [Option.map_some, Nat.zero_le, true_and, Nat.zero_add, Nat.sub_zero]
    rcases Nat.lt_or_ge k nd with h2 | h2
    · rw [if_pos (by omega), hk.done k (Nat.zero_le _) h2, getD_app_l _ _ _ (by rw [decK_len]; exact h2), decK_get nd u h2]
      have := dig_le u (nd - 1 - k)
      simp only [Lib.dg, UInt8.toNat_ofNat']
      rw [Nat.mod_eq_of_lt (by omega)]
    · rw [if_neg (by omega), getD_app_r _ _ _ (by rw [decK_len]; exact h2), List.getD_eq_getElem?_getD, List.getElem?_replicate]
      split <;> rfl
  · have hl : (decK nd u ++ List.replicate (24 - nd) 0).length = 24 := by rw [List.length_append, decK_len, List.length_replicate]; omega
    rw [Array.getElem?_eq_none (by rw [cn_size, List.length_replicate]; exact h1), Array.getElem?_eq_none (by rw [cn_size, hl]; exact h1)]
    rfl
theorem fmt10_U (nd u : Nat) (hnd : nd ≤ 24) (hu : u < 10 ^ nd) (hu64 : u < 18446744073709551616) (g i : Nat) (L : Blks) (hi : L[i]? = some (g, .cells (cn .u8 (List.replicate 24 0)) 102)) :
    CallU Tryd.prog 61 [.slice (some ⟨g, 0, none⟩) nd 24, .int .u64 (u : Nat)] L (.tuple #[]) [(i, .cells (cn .u8 (decK nd u ++ List.replicate (24 - nd) 0)) 102)] := ⟨en_fmt10, fun w H => by
  have hb : w.heap[g]? = some (.cells (cn .u8 (List.replicate 24 0)) 102) := H i _ hi
  have hH : Go.Sort.Holds (fun (b : UInt8) => Value.int .u8 (b.toNat : Int)) w g 0 (Array.replicate nd (0 : UInt8)) := fun j hj => by
    rw [Array.size_replicate] at hj
    have hj' : j < 24 := by omega
    refine ⟨?_, ?_⟩
    · rw [cell_of hb, Nat.zero_add, cn_get _ _ _ (by rw [List.length_replicate]; exact hj'), rep_get]
      simp [hj]
    · simp [World.frozen?, hb]
  have hc := Any.internal_strconv_formatBase10 lay10 g 0 24 u (Array.replicate nd (0 : UInt8)) w hH (by rw [Array.size_replicate]; exact hu) hu64 (by rw [Array.size_replicate]; omega)
  rw [Array.size_replicate] at hc
  refine Calls.mono hc ?_
  rintro e w' ⟨rfl, n, v', dk, rfl, hk⟩
  have e0 : ∀ k, (Go.Sort.putRow (fun (b : UInt8) => Value.int .u8 (b.toNat : Int)) w g 0 dk).heap[k]? = if g = k then (w.heap[k]?).map (Go.Sort.onCells (Go.Sort.putCells (fun (b : UInt8) => Value.int .u8 (b.toNat : Int)) 0 dk)) else w.heap[k]? := fun k => by
    simp only [Go.Sort.putRow, Go.Sort.mapBlock, Array.getElem?_modify]
  refine ⟨rfl, rfl, rfl, rfl, ?_, fun k hk' hu' => ?_, fun o ho => (by cases ho), fun _ => rfl, fun x hx y hy => ?_⟩
  · show w.heap.size ≤ (Go.Sort.putRow (fun (b : UInt8) => Value.int .u8 (b.toNat : Int)) w g 0 dk).heap.size
    simp [Go.Sort.putRow, Go.Sort.mapBlock]
  · have hne : g ≠ k := hu' _ (List.mem_singleton.2 rfl) (g, _) hi
    exact (e0 k).trans (if_neg hne)
  · rw [List.mem_singleton] at hx
    subst hx
    rw [hi] at hy
    obtain rfl := Option.some.inj hy
    refine (e0 g).trans ?_
    rw [if_pos rfl, hb, Option.map_some]
    simp only [Go.Sort.onCells]
    rw [put_dec hnd hk]⟩
theorem dec24 {nd u : Nat} (h : nd ≤ 24) : (decK nd u ++ List.replicate (24 - nd) 0).length = 24 := by rw [List.length_append, decK_len, List.length_replicate]; omega
theorem dec24_lt (nd u k : Nat) : ∀ i, (decK nd u ++ List.replicate k 0).getD i 0 < 256 := pad_lt _ (decK_lt nd u) _
theorem dec24_take (nd u k : Nat) : ((decK nd u ++ List.replicate k 0).drop 0).take nd = decK nd u := by
  rw [List.drop_zero, List.take_append_of_le_length (by rw [decK_len]; exact Nat.le_refl _), List.take_of_length_le (by rw [decK_len]; exact Nat.le_refl _)]
set_option maxRecDepth 100000 in
theorem l10_any (x : Nat) (hx : x ≤ 64) (w0 : World) :
    Calls Tryd.prog 67 #[.int .i64 (x : Nat)] w0 fun e w' => e = .returned (.int .i64 (lg x : Nat)) ∧ Below w0.heap.size w0 w' := by
  refine enter_fr Tryd.func67 rfl Tryd.ntmps67 (by simp) fun ac (FF : Fr 6 ac [(0, .int .i64 (x : Nat))]) => ?_
  have MM := MemS.start w0
  refine wp_seq (rg_seq FF MM [o_] [0, 2] (fun Kt => Kt [(2, .int .i64 (0 : Nat)), (0, .int .i64 (x : Nat))] []) (by kernel_rfl) (fun _ => by kernel_rfl) (fun ac1 wd1 FF1 MM1 => then_n ?_))
  refine wp_seq (rg_seq FF1 MM1 [o_, o_, t_ (.int .i64 (lg x : Nat)), o_] [2] (fun Kt => x * 78913 < 9223372036854775808 ∧ 18 ≤ 64 ∧ Value.int .i64 ((x * 78913) / 262144 : Nat) = .int .i64 (lg x : Nat) ∧ Kt [(2, .int .i64 (lg x : Nat))] []) (by kernel_rfl) (fun _ => by kernel_rfl) (⟨(by have := hx; omega), (by decide), rfl, fun ac2 wd2 FF2 MM2 => then_n ?_⟩))
  refine wp_ret ?_
  repeat first | refine then_ret ?_ | refine inb_ret ?_
  exact (ret_fr FF2 0 Tryd.results67 rfl ⟨rfl, MM2.below⟩)
set_option maxRecDepth 100000 in
theorem bool2_true  (w0 : World) :
    Calls Tryd.prog 68 #[.bool true] w0 fun e w' => e = .returned (.int .i64 (1 : Nat)) ∧ Below w0.heap.size w0 w' := by
  refine enter_fr Tryd.func68 rfl Tryd.ntmps68 (by simp) fun ac (FF : Fr 4 ac [(0, .bool true)]) => ?_
  have MM := MemS.start w0
  refine wp_seq (rg_seq FF MM [o_] [0, 2] (fun Kt => Kt [(2, .int .i64 (0 : Nat)), (0, .bool true)] []) (by kernel_rfl) (fun _ => by kernel_rfl) (fun ac1 wd1 FF1 MM1 => then_n ?_))
  refine wp_seq ?_
  refine wp_seq (rg_seq FF1 MM1 [o_] [2, 3] (fun Kt => Kt [(3, .bool true), (2, .int .i64 (0 : Nat))] []) (by kernel_rfl) (fun _ => by kernel_rfl) (fun ac2 wd2 FF2 MM2 => then_n ?_))
  refine wp_cond_true (FF2.ev 0 rfl) ?_
  refine wp_seq (rg_seq FF2 MM2 [o_] [2] (fun Kt => Kt [(2, .int .i64 (1 : Nat))] []) (by kernel_rfl) (fun _ => by kernel_rfl) (fun ac3 wd3 FF3 MM3 => then_n ?_))
  refine wp_ret ?_
  repeat first | refine then_ret ?_ | refine inb_ret ?_
  exact (ret_fr FF3 0 Tryd.results68 rfl ⟨rfl, MM3.below⟩)
set_option maxRecDepth 100000 in
theorem bool2_false  (w0 : World) :
    Calls Tryd.prog 68 #[.bool false] w0 fun e w' => e = .returned (.int .i64 (0 : Nat)) ∧ Below w0.heap.size w0 w' := by
  refine enter_fr Tryd.func68 rfl Tryd.ntmps68 (by simp) fun ac (FF : Fr 4 ac [(0, .bool false)]) => ?_
  have MM := MemS.start w0
  refine wp_seq (rg_seq FF MM [o_] [0, 2] (fun Kt => Kt [(2, .int .i64 (0 : Nat)), (0, .bool false)] []) (by kernel_rfl) (fun _ => by kernel_rfl) (fun ac1 wd1 FF1 MM1 => then_n ?_))
  refine wp_seq ?_
  refine wp_seq (rg_seq FF1 MM1 [o_] [2, 3] (fun Kt => Kt [(3, .bool false), (2, .int .i64 (0 : Nat))] []) (by kernel_rfl) (fun _ => by kernel_rfl) (fun ac2 wd2 FF2 MM2 => then_n ?_))
  refine wp_cond_false (FF2.ev 0 rfl) ?_
  refine wp_skip ?_
  refine then_n ?_
  refine wp_seq (rg_seq FF2 MM2 [o_] [2] (fun Kt => Kt [(2, .int .i64 (0 : Nat))] []) (by kernel_rfl) (fun _ => by kernel_rfl) (fun ac3 wd3 FF3 MM3 => then_n ?_))
  refine wp_ret ?_
  repeat first | refine then_ret ?_ | refine inb_ret ?_
  exact (ret_fr FF3 0 Tryd.results68 rfl ⟨rfl, MM3.below⟩)
set_option maxRecDepth 100000 in
theorem small_any (i : Nat) (hi : i < 100) (w0 : World) :
    Calls Tryd.prog 59 #[.int .i64 (i : Nat)] w0 fun e w' => e = .returned (.string (bs (decN i))) ∧ Below w0.heap.size w0 w' := by
  refine enter_fr Tryd.func59 rfl Tryd.ntmps59 (by simp) fun ac (FF : Fr 15 ac [(0, .int .i64 (i : Nat))]) => ?_
  have MM := MemS.start w0
  refine wp_seq (rg_seq FF MM [o_] [0, 2] (fun Kt => Kt [(2, .string (bs [])), (0, .int .i64 (i : Nat))] []) (by kernel_rfl) (fun _ => by kernel_rfl) (fun ac1 wd1 FF1 MM1 => then_n ?_))
  refine wp_seq ?_
  refine wp_seq (rg_seq FF1 MM1 [o_, o_] [2, 0, 4] (fun Kt => Kt [(4, .bool (decide (i < 10))), (2, .string (bs [])), (0, .int .i64 (i : Nat))] []) (by kernel_rfl) (fun _ => by kernel_rfl) (fun ac2 wd2 FF2 MM2 => then_n ?_))
  by_cases hs4 : i < 10
  · refine wp_cond_true ((FF2.ev 0 rfl).trans (dec_t hs4)) ?_
    refine wp_seq (rg_seq FF2 MM2 [o_, o_, o_, t_ (.string (bs (decN i))), o_] [2, 0] (fun Kt => i + 1 < 9223372036854775808 ∧ i ≤ (i + 1) ∧ (i + 1) ≤ (bs digs36).size ∧ Value.string ((bs digs36).extract i (i + 1)) = .string (bs (decN i)) ∧ Kt [(2, .string (bs (decN i))), (0, .int .i64 (i : Nat))] []) (by kernel_rfl) (fun _ => by kernel_rfl) (⟨(by have := hi; omega), (by have := hi; omega), (by rw [bs_size, show digs36.length = 36 from (by kernel_rfl)]; have := hi; omega), (vS2 ((bs_extract _ _ _).trans (congrArg bs ((digs_at hs4).trans (dec_small1 hs4))))), fun ac3 wd3 FF3 MM3 => then_n ?_⟩))
    refine wp_ret ?_
    repeat first | refine then_ret ?_ | refine inb_ret ?_
    exact (ret_fr FF3 0 Tryd.results59 rfl ⟨rfl, MM3.below⟩)
  · refine wp_cond_false ((FF2.ev 0 rfl).trans (dec_f hs4)) ?_
    refine wp_skip ?_
    refine then_n ?_
    refine wp_seq (rg_seq FF2 MM2 [o_, o_, o_, o_, o_, t_ (.string (bs (decN i))), o_] [2, 0] (fun Kt => i * 2 < 9223372036854775808 ∧ i * 2 < 9223372036854775808 ∧ (i * 2) + 2 < 9223372036854775808 ∧ (i * 2) ≤ ((i * 2) + 2) ∧ ((i * 2) + 2) ≤ (bs smalls8).size ∧ Value.string ((bs smalls8).extract (i * 2) ((i * 2) + 2)) = .string (bs (decN i)) ∧ Kt [(2, .string (bs (decN i))), (0, .int .i64 (i : Nat))] []) (by kernel_rfl) (fun _ => by kernel_rfl) (⟨(by have := hi; omega), (by have := hi; omega), (by have := hi; omega), (by have := hi; omega), (by rw [bs_size, show smalls8.length = 200 from (by kernel_rfl)]; have := hi; omega), (vS2 ((bs_extract _ _ _).trans (congrArg bs ((smalls_at hi).trans (dec_small2 hs4 hi))))), fun ac4 wd4 FF4 MM4 => then_n ?_⟩))
    refine wp_ret ?_
    repeat first | refine then_ret ?_ | refine inb_ret ?_
    exact (ret_fr FF4 0 Tryd.results59 rfl ⟨rfl, MM4.below⟩)
set_option maxRecDepth 100000 in
theorem ndig_any (O : Blks) (hD : Distinct O) (hT : TabO O) (u : Nat) (h0 : u ≠ 0) (hu : u < 18446744073709551616) (w0 : World) (H : Has w0 O) :
    Calls Tryd.prog 60 #[.int .u64 (u : Nat)] w0 fun e w' => e = .returned (.int .i64 (dsz u : Nat)) ∧ Below w0.heap.size w0 w' := by
  refine enter_fr Tryd.func60 rfl Tryd.ntmps60 (by simp) fun ac (FF : Fr 15 ac [(0, .int .u64 (u : Nat))]) => ?_
  have MM : MemS (fun k => k < w0.heap.size ∧ ∀ x ∈ O, x.1 ≠ k) w0 w0 O [] := MemS.startN H hD
  obtain ⟨hn1, hn2⟩ := ndig h0 hu
  refine wp_seq (rg_seq FF MM [o_] [0, 2] (fun Kt => Kt [(2, .int .i64 (0 : Nat)), (0, .int .u64 (u : Nat))] O) (by kernel_rfl) (fun _ => by kernel_rfl) (fun ac1 wd1 FF1 MM1 => then_n ?_))
  refine wp_seq (rg_seq FF1 MM1 [o_, t_ (.int .i64 (bsz u : Nat)), t_ (.int .i64 (lg (bsz u) : Nat)), o_] [2, 0, 3] (fun Kt => CallP Tryd.prog 38 [.int .u64 (u : Nat)] [] (.int .i64 (bsz u : Nat)) ∧ CallP Tryd.prog 67 [.int .i64 (bsz u : Nat)] [] (.int .i64 (lg (bsz u) : Nat)) ∧ Kt [(3, .int .i64 (lg (bsz u) : Nat)), (2, .int .i64 (0 : Nat)), (0, .int .u64 (u : Nat))] O) (by kernel_rfl) (fun _ => by kernel_rfl) (⟨(callP_of en_len64 (len64_any u hu) _), (callP_of en_l10 (l10_any (bsz u) (bsz64 (show u < 18446744073709551616 from hu))) _), fun ac2 wd2 FF2 MM2 => then_n ?_⟩))
  by_cases hc : 10 ^ lg (bsz u) ≤ u
  · skip
    rw [if_pos hc] at hn1
    refine wp_seq (rg_seq FF2 MM2 [o_, o_, o_, w_ 1, f_ (.int .u64 (10 ^ lg (bsz u) : Nat)), w_ 2, t_ (.int .i64 (1 : Nat)), t_ (.int .i64 (dsz u : Nat)), o_] [2, 0] (fun Kt => (lg (bsz u)) < 20 ∧ RunV Tryd.prog [(10, .pointer (some ⟨2, lg (bsz u), none⟩)), (9, .int .i64 (lg (bsz u) : Nat)), (8, .int .u64 (u : Nat)), (7, .int .i64 (lg (bsz u) : Nat)), (3, .int .i64 (lg (bsz u) : Nat)), (2, .int .i64 (0 : Nat)), (0, .int .u64 (u : Nat))] O (opAt Tryd.f60 2 4) (.int .u64 (10 ^ lg (bsz u) : Nat)) ∧ u ≥ (10 ^ lg (bsz u)) ∧ CallP Tryd.prog 68 [.bool true] [] (.int .i64 (1 : Nat)) ∧ (lg (bsz u)) + 1 < 9223372036854775808 ∧ Value.int .i64 ((lg (bsz u)) + 1 : Nat) = .int .i64 (dsz u : Nat) ∧ Kt [(2, .int .i64 (dsz u : Nat)), (0, .int .u64 (u : Nat))] O) (by kernel_rfl) (fun _ => by kernel_rfl) (⟨(by omega), (rowLoad_ok (p := some ⟨2, 0, none⟩) (i := lg (bsz u)) (V := fun j => .int .u64 (10 ^ j : Nat)) (x := .tmp 10) (by kernel_rfl) rfl Tryd.underlying71 rfl hT (fun _ hx => hx) (by omega)), hc, (callP_of en_bool2 bool2_true _), (by omega), (vI hn1.symm), fun ac3 wd3 FF3 MM3 => then_n ?_⟩))
    refine wp_ret ?_
    repeat first | refine then_ret ?_ | refine inb_ret ?_
    exact (ret_fr FF3 0 Tryd.results60 rfl ⟨rfl, MM3.belowN H (fun _ hx => hx)⟩)
  · skip
    rw [if_neg hc] at hn1
    refine wp_seq (rg_seq FF2 MM2 [o_, o_, o_, w_ 1, f_ (.int .u64 (10 ^ lg (bsz u) : Nat)), w_ 3, t_ (.int .i64 (0 : Nat)), t_ (.int .i64 (dsz u : Nat)), o_] [2, 0] (fun Kt => (lg (bsz u)) < 20 ∧ RunV Tryd.prog [(10, .pointer (some ⟨2, lg (bsz u), none⟩)), (9, .int .i64 (lg (bsz u) : Nat)), (8, .int .u64 (u : Nat)), (7, .int .i64 (lg (bsz u) : Nat)), (3, .int .i64 (lg (bsz u) : Nat)), (2, .int .i64 (0 : Nat)), (0, .int .u64 (u : Nat))] O (opAt Tryd.f60 2 4) (.int .u64 (10 ^ lg (bsz u) : Nat)) ∧ ¬ (u ≥ (10 ^ lg (bsz u))) ∧ CallP Tryd.prog 68 [.bool false] [] (.int .i64 (0 : Nat)) ∧ (lg (bsz u)) + 0 < 9223372036854775808 ∧ Value.int .i64 ((lg (bsz u)) + 0 : Nat) = .int .i64 (dsz u : Nat) ∧ Kt [(2, .int .i64 (dsz u : Nat)), (0, .int .u64 (u : Nat))] O) (by kernel_rfl) (fun _ => by kernel_rfl) (⟨(by omega), (rowLoad_ok (p := some ⟨2, 0, none⟩) (i := lg (bsz u)) (V := fun j => .int .u64 (10 ^ j : Nat)) (x := .tmp 10) (by kernel_rfl) rfl Tryd.underlying71 rfl hT (fun _ hx => hx) (by omega)), hc, (callP_of en_bool2 bool2_false _), (by omega), (vI hn1.symm), fun ac4 wd4 FF4 MM4 => then_n ?_⟩))
    refine wp_ret ?_
    repeat first | refine then_ret ?_ | refine inb_ret ?_
    exact (ret_fr FF4 0 Tryd.results60 rfl ⟨rfl, MM4.belowN H (fun _ hx => hx)⟩)
set_option maxRecDepth 100000 in
theorem ifmt_any (O : Blks) (hD : Distinct O) (hT : TabO O) (u : Nat) (hu : u < 18446744073709551616) (w0 : World) (H : Has w0 O) :
    Calls Tryd.prog 52 #[.int .u64 (u : Nat), .int .i64 (10 : Nat)] w0 fun e w' => e = .returned (.string (bs (decN u))) ∧ Below w0.heap.size w0 w' := by
  refine enter_fr Tryd.func52 rfl Tryd.ntmps52 (by simp) fun ac (FF : Fr 32 ac [(0, .int .u64 (u : Nat)), (1, .int .i64 (10 : Nat))]) => ?_
  have MM : MemS (fun k => k < w0.heap.size ∧ ∀ x ∈ O, x.1 ≠ k) w0 w0 O [] := MemS.startN H hD
  refine wp_seq (rg_seq FF MM [o_] [0, 1, 4] (fun Kt => Kt [(4, .string (bs [])), (0, .int .u64 (u : Nat)), (1, .int .i64 (10 : Nat))] O) (by kernel_rfl) (fun _ => by kernel_rfl) (fun ac1 wd1 FF1 MM1 => then_n ?_))
  refine wp_seq ?_
  refine wp_seq (rg_seq FF1 MM1 [o_, w_ 2] [4, 0, 1, 10] (fun Kt => 10 = 10 ∧ Kt [(10, .bool true), (4, .string (bs [])), (0, .int .u64 (u : Nat)), (1, .int .i64 (10 : Nat))] O) (by kernel_rfl) (fun _ => by kernel_rfl) (⟨(by decide), fun ac2 wd2 FF2 MM2 => then_n ?_⟩))
  refine wp_cond_true (FF2.ev 0 rfl) ?_
  refine wp_seq ?_
  refine wp_seq (rg_seq FF2 MM2 [o_, o_] [4, 0, 1, 12] (fun Kt => Kt [(12, .bool (decide (u < 100))), (4, .string (bs [])), (0, .int .u64 (u : Nat)), (1, .int .i64 (10 : Nat))] O) (by kernel_rfl) (fun _ => by kernel_rfl) (fun ac3 wd3 FF3 MM3 => then_n ?_))
  by_cases hs12 : u < 100
  · refine wp_cond_true ((FF3.ev 0 rfl).trans (dec_t hs12)) ?_
    refine wp_seq (rg_seq FF3 MM3 [o_, w_ 1, t_ (.string (bs (decN u))), o_] [4, 0, 1] (fun Kt => u < 9223372036854775808 ∧ CallP Tryd.prog 59 [.int .i64 (u : Nat)] [] (.string (bs (decN u))) ∧ Kt [(4, .string (bs (decN u))), (0, .int .u64 (u : Nat)), (1, .int .i64 (10 : Nat))] O) (by kernel_rfl) (fun _ => by kernel_rfl) (⟨(by have := hu; omega), (callP_of en_small (small_any u (by omega)) _), fun ac4 wd4 FF4 MM4 => then_n ?_⟩))
    refine wp_ret ?_
    repeat first | refine then_ret ?_ | refine inb_ret ?_
    exact (ret_fr FF4 0 Tryd.results52 rfl ⟨rfl, MM4.belowN H (fun _ hx => hx)⟩)
  · refine wp_cond_false ((FF3.ev 0 rfl).trans (dec_f hs12)) ?_
    have h0 : u ≠ 0 := by omega
    have hn20 := dsz_le (n := 20) (N := u) (by omega)
    have hn24 : dsz u ≤ 24 := by omega
    have hu10 := (dsz_ok u).1
    refine wp_skip ?_
    refine then_n ?_
    refine wp_seq (rg_seq FF3 MM3 [o_] [4, 0, 1, 5] (fun Kt => ∀ ba, Kt [(5, .pointer (some ⟨ba, 0, none⟩)), (4, .string (bs [])), (0, .int .u64 (u : Nat)), (1, .int .i64 (10 : Nat))] ((ba, .cells (cn .u8 (List.replicate 24 0)) 102) :: O)) (by kernel_rfl) (fun _ => by kernel_rfl) (fun ba => fun ac5 wd5 FF5 MM5 => then_n ?_))
    refine wp_seq (rg_seq FF5 MM5 [o_, u_ 1 (.int .i64 (dsz u : Nat)), o_] [5, 4, 0, 1, 6] (fun Kt => CallP Tryd.prog 60 [.int .u64 (u : Nat)] ((ba, .cells (cn .u8 (List.replicate 24 0)) 102) :: O) (.int .i64 (dsz u : Nat)) ∧ Kt [(6, .int .i64 (dsz u : Nat)), (5, .pointer (some ⟨ba, 0, none⟩)), (4, .string (bs [])), (0, .int .u64 (u : Nat)), (1, .int .i64 (10 : Nat))] ((ba, .cells (cn .u8 (List.replicate 24 0)) 102) :: O)) (by kernel_rfl) (fun _ => by kernel_rfl) (⟨⟨en_ndig, fun w Hw => ndig_any O hD hT u h0 hu w (Has.tl Hw)⟩, fun ac6 wd6 FF6 MM6 => then_n ?_⟩))
    refine wp_seq (rg_seq FF6 MM6 [o_, o_, o_, c_ (.tuple #[]) [(0, .cells (cn .u8 (decK (dsz u) u ++ List.replicate (24 - (dsz u)) 0)) 102)]] [6, 5, 4, 0, 1] (fun Kt => 0 ≤ (dsz u) ∧ (dsz u) ≤ 24 ∧ 0 < 24 ∧ CallU Tryd.prog 61 [.slice (some ⟨ba, 0, none⟩) (dsz u) 24, .int .u64 (u : Nat)] ((ba, .cells (cn .u8 (List.replicate 24 0)) 102) :: O) (.tuple #[]) [(0, .cells (cn .u8 (decK (dsz u) u ++ List.replicate (24 - (dsz u)) 0)) 102)] ∧ Kt [(6, .int .i64 (dsz u : Nat)), (5, .pointer (some ⟨ba, 0, none⟩)), (4, .string (bs [])), (0, .int .u64 (u : Nat)), (1, .int .i64 (10 : Nat))] ((ba, .cells (cn .u8 (decK (dsz u) u ++ List.replicate (24 - (dsz u)) 0)) 102) :: O)) (by kernel_rfl) (fun _ => by kernel_rfl) (⟨(by omega), (by omega), (by decide), (fmt10_U (dsz u) u hn24 hu10 hu ba 0 _ rfl), fun ac7 wd7 FF7 MM7 => then_n ?_⟩))
    refine wp_seq (rg_seq FF7 MM7 [o_, o_, l_ 0 (.string (bs (decN u))), o_] [6, 5, 4, 0, 1] (fun Kt => 0 ≤ (dsz u) ∧ (dsz u) ≤ 24 ∧ 0 < 24 ∧ ba = ba ∧ StrAt (cn .u8 (decK (dsz u) u ++ List.replicate (24 - (dsz u)) 0)) 0 (dsz u) (bs (decN u)) ∧ Kt [(4, .string (bs (decN u))), (6, .int .i64 (dsz u : Nat)), (5, .pointer (some ⟨ba, 0, none⟩)), (0, .int .u64 (u : Nat)), (1, .int .i64 (10 : Nat))] ((ba, .cells (cn .u8 (decK (dsz u) u ++ List.replicate (24 - (dsz u)) 0)) 102) :: O)) (by kernel_rfl) (fun _ => by kernel_rfl) (⟨(by omega), (by omega), (by decide), rfl, (by have h5 := str_part (len := dsz u) (off := 0) (dec24 (u := u) hn24) (dec24_lt (dsz u) u (24 - dsz u)) (by omega); rw [dec24_take] at h5; rw [decN_K h0]; exact h5), fun ac8 wd8 FF8 MM8 => then_n ?_⟩))
    refine wp_ret ?_
    repeat first | refine then_ret ?_ | refine inb_ret ?_
    exact (ret_fr FF8 0 Tryd.results52 rfl ⟨rfl, MM8.belowN H (fun _ hx => List.mem_cons_of_mem _ (hx))⟩)
set_option maxRecDepth 100000 in
theorem fmtu_O (O : Blks) (hD : Distinct O) (hT : TabO O) (u : Nat) (hu : u < 18446744073709551616) (w0 : World) (H : Has w0 O) :
    Calls Tryd.prog 45 #[.int .u64 (u : Nat), .int .i64 (10 : Nat)] w0 fun e w' => e = .returned (.string (bs (decN u))) ∧ Below w0.heap.size w0 w' := by
  refine enter_fr Tryd.func45 rfl Tryd.ntmps45 (by simp) fun ac (FF : Fr 8 ac [(0, .int .u64 (u : Nat)), (1, .int .i64 (10 : Nat))]) => ?_
  have MM : MemS (fun k => k < w0.heap.size ∧ ∀ x ∈ O, x.1 ≠ k) w0 w0 O [] := MemS.startN H hD
  refine wp_seq (rg_seq FF MM [o_] [0, 1, 4] (fun Kt => Kt [(4, .string (bs [])), (0, .int .u64 (u : Nat)), (1, .int .i64 (10 : Nat))] O) (by kernel_rfl) (fun _ => by kernel_rfl) (fun ac1 wd1 FF1 MM1 => then_n ?_))
  refine wp_seq (rg_seq FF1 MM1 [o_, o_, u_ 1 (.string (bs (decN u))), o_] [4] (fun Kt => CallP Tryd.prog 52 [.int .u64 (u : Nat), .int .i64 (10 : Nat)] O (.string (bs (decN u))) ∧ Kt [(4, .string (bs (decN u)))] O) (by kernel_rfl) (fun _ => by kernel_rfl) (⟨⟨en_ifmt, fun w Hw => ifmt_any O hD hT u hu w Hw⟩, fun ac2 wd2 FF2 MM2 => then_n ?_⟩))
  refine wp_ret ?_
  repeat first | refine then_ret ?_ | refine inb_ret ?_
  exact (ret_fr FF2 0 Tryd.results45 rfl ⟨rfl, MM2.belowN H (fun _ hx => hx)⟩)
theorem fmtu_any (u : Nat) (hu : u < 18446744073709551616) (w : World) (hT : TabIn w) : Calls Tryd.prog 45 #[.int .u64 (u : Nat), .int .i64 (10 : Nat)] w fun e w' => e = .returned (.string (bs (decN u))) ∧ Below w.heap.size w w' := by
  obtain ⟨O, h1, h2, h3⟩ := tab_O hT
  exact fmtu_O O (distinct_of h2) h3 u hu w h1

end Go.Proofs.YtdeiodcfblldgaaDoor
namespace Go.Proofs.YtdeiodcfblldgaaDoor
open Go.RowKit

def zs64 : List Nat := List.replicate 64 48
def sp128 : List Nat := List.replicate 128 32
def ds128 : List Nat := List.replicate 128 45
theorem zs_take {k : Nat} (h : k ≤ 19) : (zs64.take k).drop 0 = List.replicate k 48 := by rw [List.drop_zero, zs64, List.take_replicate, Nat.min_eq_left (by omega)]
theorem rep48_lt (k : Nat) : ∀ i, (List.replicate k 48).getD i 0 < 256 := fun i => by rw [List.getD_eq_getElem?_getD, List.getElem?_replicate]; split <;> decide
theorem bs_ne {A B : List Nat} (h : (bs A).data ≠ (bs B).data) : ¬ bs A = bs B := fun e => h (by rw [e])
set_option maxRecDepth 100000 in
theorem lhasp_zs64  (w0 : World) :
    Calls Tryd.prog 65 #[.string (bs zs64), .string (bs [48])] w0 fun e w' => e = .returned (.bool true) ∧ Below w0.heap.size w0 w' := by
  refine enter_fr Tryd.func65 rfl Tryd.ntmps65 (by simp) fun ac (FF : Fr 18 ac [(0, .string (bs zs64)), (1, .string (bs [48]))]) => ?_
  have MM := MemS.start w0
  refine wp_seq (rg_seq FF MM [o_] [0, 1, 4] (fun Kt => Kt [(4, .bool false), (0, .string (bs zs64)), (1, .string (bs [48]))] []) (by kernel_rfl) (fun _ => by kernel_rfl) (fun ac1 wd1 FF1 MM1 => then_n ?_))
  refine wp_seq (rg_seq FF1 MM1 [o_, t_ (.int .i64 (64 : Nat)), o_, t_ (.int .i64 (1 : Nat)), w_ 2, o_, o_, o_, t_ (.int .i64 (1 : Nat)), t_ (.string (bs [48])), o_, w_ 2, o_, o_] [4] (fun Kt => Value.int .i64 ((bs zs64).size : Nat) = .int .i64 (64 : Nat) ∧ Value.int .i64 ((bs [48]).size : Nat) = .int .i64 (1 : Nat) ∧ 64 ≥ 1 ∧ Value.int .i64 ((bs [48]).size : Nat) = .int .i64 (1 : Nat) ∧ 0 ≤ 1 ∧ 1 ≤ (bs zs64).size ∧ Value.string ((bs zs64).extract 0 1) = .string (bs [48]) ∧ bs [48] = bs [48] ∧ Kt [(4, .bool true)] []) (by kernel_rfl) (fun _ => by kernel_rfl) (⟨(vI ((bs_size _).trans rfl)), (vI ((bs_size _).trans rfl)), (by decide), (vI ((bs_size _).trans rfl)), (Nat.zero_le _), (by rw [bs_size, show zs64.length = 64 from (by kernel_rfl)]; omega), (vS2 ((bs_extract _ _ _).trans (congrArg bs (by kernel_rfl)))), rfl, fun ac2 wd2 FF2 MM2 => then_n ?_⟩))
  refine wp_ret ?_
  repeat first | refine then_ret ?_ | refine inb_ret ?_
  exact (ret_fr FF2 0 Tryd.results65 rfl ⟨rfl, MM2.below⟩)
set_option maxRecDepth 100000 in
theorem lhasp_sp128  (w0 : World) :
    Calls Tryd.prog 65 #[.string (bs sp128), .string (bs [48])] w0 fun e w' => e = .returned (.bool false) ∧ Below w0.heap.size w0 w' := by
  refine enter_fr Tryd.func65 rfl Tryd.ntmps65 (by simp) fun ac (FF : Fr 18 ac [(0, .string (bs sp128)), (1, .string (bs [48]))]) => ?_
  have MM := MemS.start w0
  refine wp_seq (rg_seq FF MM [o_] [0, 1, 4] (fun Kt => Kt [(4, .bool false), (0, .string (bs sp128)), (1, .string (bs [48]))] []) (by kernel_rfl) (fun _ => by kernel_rfl) (fun ac1 wd1 FF1 MM1 => then_n ?_))
  refine wp_seq (rg_seq FF1 MM1 [o_, t_ (.int .i64 (128 : Nat)), o_, t_ (.int .i64 (1 : Nat)), w_ 2, o_, o_, o_, t_ (.int .i64 (1 : Nat)), t_ (.string (bs [32])), o_, w_ 3, o_, o_] [4] (fun Kt => Value.int .i64 ((bs sp128).size : Nat) = .int .i64 (128 : Nat) ∧ Value.int .i64 ((bs [48]).size : Nat) = .int .i64 (1 : Nat) ∧ 128 ≥ 1 ∧ Value.int .i64 ((bs [48]).size : Nat) = .int .i64 (1 : Nat) ∧ 0 ≤ 1 ∧ 1 ≤ (bs sp128).size ∧ Value.string ((bs sp128).extract 0 1) = .string (bs [32]) ∧ ¬ (bs [32] = bs [48]) ∧ Kt [(4, .bool false)] []) (by kernel_rfl) (fun _ => by kernel_rfl) (⟨(vI ((bs_size _).trans rfl)), (vI ((bs_size _).trans rfl)), (by decide), (vI ((bs_size _).trans rfl)), (Nat.zero_le _), (by rw [bs_size, show sp128.length = 128 from (by kernel_rfl)]; omega), (vS2 ((bs_extract _ _ _).trans (congrArg bs (by kernel_rfl)))), (bs_ne (by decide)), fun ac2 wd2 FF2 MM2 => then_n ?_⟩))
  refine wp_ret ?_
  repeat first | refine then_ret ?_ | refine inb_ret ?_
  exact (ret_fr FF2 0 Tryd.results65 rfl ⟨rfl, MM2.below⟩)
set_option maxRecDepth 100000 in
theorem lhasp_ds128  (w0 : World) :
    Calls Tryd.prog 65 #[.string (bs ds128), .string (bs [48])] w0 fun e w' => e = .returned (.bool false) ∧ Below w0.heap.size w0 w' := by
  refine enter_fr Tryd.func65 rfl Tryd.ntmps65 (by simp) fun ac (FF : Fr 18 ac [(0, .string (bs ds128)), (1, .string (bs [48]))]) => ?_
  have MM := MemS.start w0
  refine wp_seq (rg_seq FF MM [o_] [0, 1, 4] (fun Kt => Kt [(4, .bool false), (0, .string (bs ds128)), (1, .string (bs [48]))] []) (by kernel_rfl) (fun _ => by kernel_rfl) (fun ac1 wd1 FF1 MM1 => then_n ?_))
  refine wp_seq (rg_seq FF1 MM1 [o_, t_ (.int .i64 (128 : Nat)), o_, t_ (.int .i64 (1 : Nat)), w_ 2, o_, o_, o_, t_ (.int .i64 (1 : Nat)), t_ (.string (bs [45])), o_, w_ 3, o_, o_] [4] (fun Kt => Value.int .i64 ((bs ds128).size : Nat) = .int .i64 (128 : Nat) ∧ Value.int .i64 ((bs [48]).size : Nat) = .int .i64 (1 : Nat) ∧ 128 ≥ 1 ∧ Value.int .i64 ((bs [48]).size : Nat) = .int .i64 (1 : Nat) ∧ 0 ≤ 1 ∧ 1 ≤ (bs ds128).size ∧ Value.string ((bs ds128).extract 0 1) = .string (bs [45]) ∧ ¬ (bs [45] = bs [48]) ∧ Kt [(4, .bool false)] []) (by kernel_rfl) (fun _ => by kernel_rfl) (⟨(vI ((bs_size _).trans rfl)), (vI ((bs_size _).trans rfl)), (by decide), (vI ((bs_size _).trans rfl)), (Nat.zero_le _), (by rw [bs_size, show ds128.length = 128 from (by kernel_rfl)]; omega), (vS2 ((bs_extract _ _ _).trans (congrArg bs (by kernel_rfl)))), (bs_ne (by decide)), fun ac2 wd2 FF2 MM2 => then_n ?_⟩))
  refine wp_ret ?_
  repeat first | refine then_ret ?_ | refine inb_ret ?_
  exact (ret_fr FF2 0 Tryd.results65 rfl ⟨rfl, MM2.below⟩)
set_option maxRecDepth 100000 in
theorem hasp_zs64  (w0 : World) :
    Calls Tryd.prog 54 #[.string (bs zs64), .string (bs [48])] w0 fun e w' => e = .returned (.bool true) ∧ Below w0.heap.size w0 w' := by
  refine enter_fr Tryd.func54 rfl Tryd.ntmps54 (by simp) fun ac (FF : Fr 8 ac [(0, .string (bs zs64)), (1, .string (bs [48]))]) => ?_
  have MM := MemS.start w0
  refine wp_seq (rg_seq FF MM [o_] [0, 1, 4] (fun Kt => Kt [(4, .bool false), (0, .string (bs zs64)), (1, .string (bs [48]))] []) (by kernel_rfl) (fun _ => by kernel_rfl) (fun ac1 wd1 FF1 MM1 => then_n ?_))
  refine wp_seq (rg_seq FF1 MM1 [o_, o_, t_ (.bool true), o_] [4] (fun Kt => CallP Tryd.prog 65 [.string (bs zs64), .string (bs [48])] [] (.bool true) ∧ Kt [(4, .bool true)] []) (by kernel_rfl) (fun _ => by kernel_rfl) (⟨(callP_of en_lhasp lhasp_zs64 _), fun ac2 wd2 FF2 MM2 => then_n ?_⟩))
  refine wp_ret ?_
  repeat first | refine then_ret ?_ | refine inb_ret ?_
  exact (ret_fr FF2 0 Tryd.results54 rfl ⟨rfl, MM2.below⟩)
set_option maxRecDepth 100000 in
theorem hasp_sp128  (w0 : World) :
    Calls Tryd.prog 54 #[.string (bs sp128), .string (bs [48])] w0 fun e w' => e = .returned (.bool false) ∧ Below w0.heap.size w0 w' := by
  refine enter_fr Tryd.func54 rfl Tryd.ntmps54 (by simp) fun ac (FF : Fr 8 ac [(0, .string (bs sp128)), (1, .string (bs [48]))]) => ?_
  have MM := MemS.start w0
  refine wp_seq (rg_seq FF MM [o_] [0, 1, 4] (fun Kt => Kt [(4, .bool false), (0, .string (bs sp128)), (1, .string (bs [48]))] []) (by kernel_rfl) (fun _ => by kernel_rfl) (fun ac1 wd1 FF1 MM1 => then_n ?_))
  refine wp_seq (rg_seq FF1 MM1 [o_, o_, t_ (.bool false), o_] [4] (fun Kt => CallP Tryd.prog 65 [.string (bs sp128), .string (bs [48])] [] (.bool false) ∧ Kt [(4, .bool false)] []) (by kernel_rfl) (fun _ => by kernel_rfl) (⟨(callP_of en_lhasp lhasp_sp128 _), fun ac2 wd2 FF2 MM2 => then_n ?_⟩))
  refine wp_ret ?_
  repeat first | refine then_ret ?_ | refine inb_ret ?_
  exact (ret_fr FF2 0 Tryd.results54 rfl ⟨rfl, MM2.below⟩)
set_option maxRecDepth 100000 in
theorem hasp_ds128  (w0 : World) :
    Calls Tryd.prog 54 #[.string (bs ds128), .string (bs [48])] w0 fun e w' => e = .returned (.bool false) ∧ Below w0.heap.size w0 w' := by
  refine enter_fr Tryd.func54 rfl Tryd.ntmps54 (by simp) fun ac (FF : Fr 8 ac [(0, .string (bs ds128)), (1, .string (bs [48]))]) => ?_
  have MM := MemS.start w0
  refine wp_seq (rg_seq FF MM [o_] [0, 1, 4] (fun Kt => Kt [(4, .bool false), (0, .string (bs ds128)), (1, .string (bs [48]))] []) (by kernel_rfl) (fun _ => by kernel_rfl) (fun ac1 wd1 FF1 MM1 => then_n ?_))
  refine wp_seq (rg_seq FF1 MM1 [o_, o_, t_ (.bool false), o_] [4] (fun Kt => CallP Tryd.prog 65 [.string (bs ds128), .string (bs [48])] [] (.bool false) ∧ Kt [(4, .bool false)] []) (by kernel_rfl) (fun _ => by kernel_rfl) (⟨(callP_of en_lhasp lhasp_ds128 _), fun ac2 wd2 FF2 MM2 => then_n ?_⟩))
  refine wp_ret ?_
  repeat first | refine then_ret ?_ | refine inb_ret ?_
  exact (ret_fr FF2 0 Tryd.results54 rfl ⟨rfl, MM2.below⟩)
set_option maxRecDepth 100000 in
theorem repeat_any (k : Nat) (hk : k ≤ 19) (w0 : World) :
    Calls Tryd.prog 46 #[.string (bs [48]), .int .i64 (k : Nat)] w0 fun e w' => e = .returned (.string (bs (List.replicate k 48))) ∧ Below w0.heap.size w0 w' := by
  refine enter_fr Tryd.func46 rfl Tryd.ntmps46 (by simp) fun ac (FF : Fr 125 ac [(0, .string (bs [48])), (1, .int .i64 (k : Nat))]) => ?_
  have MM := MemS.start w0
  refine wp_seq (rg_seq FF MM [o_] [0, 1, 4] (fun Kt => Kt [(4, .string (bs [])), (0, .string (bs [48])), (1, .int .i64 (k : Nat))] []) (by kernel_rfl) (fun _ => by kernel_rfl) (fun ac1 wd1 FF1 MM1 => then_n ?_))
  refine wp_seq ?_
  refine wp_seq (rg_seq FF1 MM1 [o_] [4, 0, 1, 11] (fun Kt => Kt [(11, .int .i64 (k : Nat)), (4, .string (bs [])), (0, .string (bs [48])), (1, .int .i64 (k : Nat))] []) (by kernel_rfl) (fun _ => by kernel_rfl) (fun ac2 wd2 FF2 MM2 => then_n ?_))
  refine wp_block ?_
  refine wp_seq (rg_seq FF2 MM2 [o_, o_] [11, 4, 0, 1, 12] (fun Kt => Kt [(12, .bool (decide (k = 0))), (11, .int .i64 (k : Nat)), (4, .string (bs [])), (0, .string (bs [48])), (1, .int .i64 (k : Nat))] []) (by kernel_rfl) (fun _ => by kernel_rfl) (fun ac3 wd3 FF3 MM3 => then_n ?_))
  by_cases hs12 : k = 0
  · refine wp_cond_true ((FF3.ev 0 rfl).trans (dec_t hs12)) ?_
    refine wp_seq (rg_seq FF3 MM3 [t_ (.string (bs (List.replicate k 48)))] [11, 4, 0, 1] (fun Kt => Value.string (bs []) = .string (bs (List.replicate k 48)) ∧ Kt [(4, .string (bs (List.replicate k 48))), (11, .int .i64 (k : Nat)), (0, .string (bs [48])), (1, .int .i64 (k : Nat))] []) (by kernel_rfl) (fun _ => by kernel_rfl) (⟨(vS (by rw [hs12]; rfl)), fun ac4 wd4 FF4 MM4 => then_n ?_⟩))
    refine wp_ret ?_
    repeat first | refine then_ret ?_ | refine inb_ret ?_
    exact (ret_fr FF4 0 Tryd.results46 rfl ⟨rfl, MM4.below⟩)
  · refine wp_cond_false ((FF3.ev 0 rfl).trans (dec_f hs12)) ?_
    refine wp_seq (rg_seq FF3 MM3 [o_, o_] [11, 4, 0, 1, 14] (fun Kt => Kt [(14, .bool (decide (k = 1))), (11, .int .i64 (k : Nat)), (4, .string (bs [])), (0, .string (bs [48])), (1, .int .i64 (k : Nat))] []) (by kernel_rfl) (fun _ => by kernel_rfl) (fun ac5 wd5 FF5 MM5 => then_n ?_))
    by_cases hs14 : k = 1
    · refine wp_cond_true ((FF5.ev 0 rfl).trans (dec_t hs14)) ?_
      refine wp_seq (rg_seq FF5 MM5 [o_, t_ (.string (bs (List.replicate k 48)))] [11, 4, 0, 1] (fun Kt => Value.string (bs [48]) = .string (bs (List.replicate k 48)) ∧ Kt [(4, .string (bs (List.replicate k 48))), (11, .int .i64 (k : Nat)), (0, .string (bs [48])), (1, .int .i64 (k : Nat))] []) (by kernel_rfl) (fun _ => by kernel_rfl) (⟨(vS (by rw [hs14]; rfl)), fun ac6 wd6 FF6 MM6 => then_n ?_⟩))
      refine wp_ret ?_
      repeat first | refine then_ret ?_ | refine inb_ret ?_
      exact (ret_fr FF6 0 Tryd.results46 rfl ⟨rfl, MM6.below⟩)
    · refine wp_cond_false ((FF5.ev 0 rfl).trans (dec_f hs14)) ?_
      refine wp_skip ?_
      refine inb_n ?_
      refine then_n ?_
      refine wp_seq ?_
      refine wp_seq (rg_seq FF5 MM5 [o_, w_ 3] [11, 4, 0, 1, 18] (fun Kt => ¬ (k < 0) ∧ Kt [(18, .bool false), (11, .int .i64 (k : Nat)), (4, .string (bs [])), (0, .string (bs [48])), (1, .int .i64 (k : Nat))] []) (by kernel_rfl) (fun _ => by kernel_rfl) (⟨(by omega), fun ac7 wd7 FF7 MM7 => then_n ?_⟩))
      refine wp_cond_false (FF7.ev 0 rfl) ?_
      refine wp_skip ?_
      refine then_n ?_
      refine wp_seq (rg_seq FF7 MM7 [o_, t_ (.int .i64 (1 : Nat)), o_, o_, w_ 1, t_ (.tuple #[.int .u64 (1 * k / 18446744073709551616 : Nat), .int .u64 (1 * k % 18446744073709551616 : Nat)]), o_, t_ (.int .u64 (0 : Nat)), t_ (.int .u64 (k : Nat)), o_, o_] [11, 4, 0, 1, 5, 6] (fun Kt => Value.int .i64 ((bs [48]).size : Nat) = .int .i64 (1 : Nat) ∧ k < 18446744073709551616 ∧ CallP Tryd.prog 53 [.int .u64 (1 : Nat), .int .u64 (k : Nat)] [] (.tuple #[.int .u64 (1 * k / 18446744073709551616 : Nat), .int .u64 (1 * k % 18446744073709551616 : Nat)]) ∧ Value.int .u64 (1 * k / 18446744073709551616 : Nat) = .int .u64 (0 : Nat) ∧ Value.int .u64 (1 * k % 18446744073709551616 : Nat) = .int .u64 (k : Nat) ∧ Kt [(6, .int .u64 (k : Nat)), (5, .int .u64 (0 : Nat)), (11, .int .i64 (k : Nat)), (4, .string (bs [])), (0, .string (bs [48])), (1, .int .i64 (k : Nat))] []) (by kernel_rfl) (fun _ => by kernel_rfl) (⟨(vI ((bs_size _).trans rfl)), (by have := hk; omega), (callP_of en_bmul (bmul_any 1 k (by decide) (by omega)) _), (vI (by omega)), (vI (by omega)), fun ac8 wd8 FF8 MM8 => then_n ?_⟩))
      refine wp_seq ?_
      refine wp_seq (rg_seq FF8 MM8 [o_, w_ 3, o_, o_, w_ 3, o_] [6, 11, 4, 0, 1, 34] (fun Kt => ¬ (0 > 0) ∧ ¬ (k > 9223372036854775807) ∧ Kt [(34, .bool false), (6, .int .u64 (k : Nat)), (11, .int .i64 (k : Nat)), (4, .string (bs [])), (0, .string (bs [48])), (1, .int .i64 (k : Nat))] []) (by kernel_rfl) (fun _ => by kernel_rfl) (⟨(by decide), (by omega), fun ac9 wd9 FF9 MM9 => then_n ?_⟩))
      refine wp_cond_false (FF9.ev 0 rfl) ?_
      refine wp_skip ?_
      refine then_n ?_
      refine wp_seq (rg_seq FF9 MM9 [o_, w_ 1, o_] [6, 11, 4, 0, 1, 7] (fun Kt => k < 9223372036854775808 ∧ Kt [(7, .int .i64 (k : Nat)), (6, .int .u64 (k : Nat)), (11, .int .i64 (k : Nat)), (4, .string (bs [])), (0, .string (bs [48])), (1, .int .i64 (k : Nat))] []) (by kernel_rfl) (fun _ => by kernel_rfl) (⟨(by have := hk; omega), fun ac10 wd10 FF10 MM10 => then_n ?_⟩))
      refine wp_seq ?_
      refine wp_seq (rg_seq FF10 MM10 [o_, t_ (.int .i64 (1 : Nat)), w_ 3] [7, 6, 11, 4, 0, 1, 40] (fun Kt => Value.int .i64 ((bs [48]).size : Nat) = .int .i64 (1 : Nat) ∧ ¬ (1 = 0) ∧ Kt [(40, .bool false), (7, .int .i64 (k : Nat)), (6, .int .u64 (k : Nat)), (11, .int .i64 (k : Nat)), (4, .string (bs [])), (0, .string (bs [48])), (1, .int .i64 (k : Nat))] []) (by kernel_rfl) (fun _ => by kernel_rfl) (⟨(vI ((bs_size _).trans rfl)), (by decide), fun ac11 wd11 FF11 MM11 => then_n ?_⟩))
      refine wp_cond_false (FF11.ev 0 rfl) ?_
      refine wp_skip ?_
      refine then_n ?_
      refine wp_seq ?_
      refine wp_seq (rg_seq FF11 MM11 [o_, t_ (.int .u8 (48 : Nat))] [7, 6, 11, 4, 0, 1, 42] (fun Kt => 0 < (bs [48]).size ∧ (nl (bs [48])).getD 0 0 = 48 ∧ Kt [(42, .int .u8 (48 : Nat)), (7, .int .i64 (k : Nat)), (6, .int .u64 (k : Nat)), (11, .int .i64 (k : Nat)), (4, .string (bs [])), (0, .string (bs [48])), (1, .int .i64 (k : Nat))] []) (by kernel_rfl) (fun _ => by kernel_rfl) (⟨(by decide), rfl, fun ac12 wd12 FF12 MM12 => then_n ?_⟩))
      refine wp_block ?_
      refine wp_seq ?_
      refine wp_seq (rg_seq FF12 MM12 [w_ 3, o_] [42, 7, 6, 11, 4, 0, 1, 43] (fun Kt => ¬ (48 = 32) ∧ Kt [(43, .bool false), (42, .int .u8 (48 : Nat)), (7, .int .i64 (k : Nat)), (6, .int .u64 (k : Nat)), (11, .int .i64 (k : Nat)), (4, .string (bs [])), (0, .string (bs [48])), (1, .int .i64 (k : Nat))] []) (by kernel_rfl) (fun _ => by kernel_rfl) (⟨(by decide), fun ac13 wd13 FF13 MM13 => then_n ?_⟩))
      refine wp_cond_false (FF13.ev 0 rfl) ?_
      refine wp_seq (rg_seq FF13 MM13 [w_ 3, o_] [43, 42, 7, 6, 11, 4, 0, 1] (fun Kt => ¬ (48 = 45) ∧ Kt [(43, .bool false), (42, .int .u8 (48 : Nat)), (7, .int .i64 (k : Nat)), (6, .int .u64 (k : Nat)), (11, .int .i64 (k : Nat)), (4, .string (bs [])), (0, .string (bs [48])), (1, .int .i64 (k : Nat))] []) (by kernel_rfl) (fun _ => by kernel_rfl) (⟨(by decide), fun ac14 wd14 FF14 MM14 => then_n ?_⟩))
      refine wp_cond_false (FF14.ev 0 rfl) ?_
      refine wp_seq (rg_seq FF14 MM14 [w_ 2, o_] [43, 42, 7, 6, 11, 4, 0, 1] (fun Kt => 48 = 48 ∧ Kt [(43, .bool true), (42, .int .u8 (48 : Nat)), (7, .int .i64 (k : Nat)), (6, .int .u64 (k : Nat)), (11, .int .i64 (k : Nat)), (4, .string (bs [])), (0, .string (bs [48])), (1, .int .i64 (k : Nat))] []) (by kernel_rfl) (fun _ => by kernel_rfl) (⟨(by decide), fun ac15 wd15 FF15 MM15 => then_n ?_⟩))
      refine wp_cond_true (FF15.ev 0 rfl) ?_
      refine wp_skip ?_
      refine then_n ?_
      refine wp_cond_true (FF15.ev 0 rfl) ?_
      refine wp_block ?_
      refine wp_seq (rg_seq FF15 MM15 [o_, w_ 2, o_, o_, t_ (.bool false), o_, o_] [42, 7, 6, 11, 4, 0, 1, 49] (fun Kt => k ≤ 128 ∧ CallP Tryd.prog 54 [.string (bs sp128), .string (bs [48])] [] (.bool false) ∧ Kt [(49, .bool false), (42, .int .u8 (48 : Nat)), (7, .int .i64 (k : Nat)), (6, .int .u64 (k : Nat)), (11, .int .i64 (k : Nat)), (4, .string (bs [])), (0, .string (bs [48])), (1, .int .i64 (k : Nat))] []) (by kernel_rfl) (fun _ => by kernel_rfl) (⟨(by omega), (callP_of en_hasp hasp_sp128 _), fun ac16 wd16 FF16 MM16 => then_n ?_⟩))
      refine wp_cond_false (FF16.ev 0 rfl) ?_
      refine wp_seq (rg_seq FF16 MM16 [o_, w_ 2, o_, o_, t_ (.bool false), o_, o_] [42, 7, 6, 11, 4, 0, 1, 58] (fun Kt => k ≤ 128 ∧ CallP Tryd.prog 54 [.string (bs ds128), .string (bs [48])] [] (.bool false) ∧ Kt [(58, .bool false), (42, .int .u8 (48 : Nat)), (7, .int .i64 (k : Nat)), (6, .int .u64 (k : Nat)), (11, .int .i64 (k : Nat)), (4, .string (bs [])), (0, .string (bs [48])), (1, .int .i64 (k : Nat))] []) (by kernel_rfl) (fun _ => by kernel_rfl) (⟨(by omega), (callP_of en_hasp hasp_ds128 _), fun ac17 wd17 FF17 MM17 => then_n ?_⟩))
      refine wp_cond_false (FF17.ev 0 rfl) ?_
      refine wp_seq (rg_seq FF17 MM17 [o_, w_ 2, o_, o_, t_ (.bool true), o_, o_] [42, 7, 6, 11, 4, 0, 1, 67] (fun Kt => k ≤ 64 ∧ CallP Tryd.prog 54 [.string (bs zs64), .string (bs [48])] [] (.bool true) ∧ Kt [(67, .bool true), (42, .int .u8 (48 : Nat)), (7, .int .i64 (k : Nat)), (6, .int .u64 (k : Nat)), (11, .int .i64 (k : Nat)), (4, .string (bs [])), (0, .string (bs [48])), (1, .int .i64 (k : Nat))] []) (by kernel_rfl) (fun _ => by kernel_rfl) (⟨(by omega), (callP_of en_hasp hasp_zs64 _), fun ac18 wd18 FF18 MM18 => then_n ?_⟩))
      refine wp_cond_true (FF18.ev 0 rfl) ?_
      refine wp_seq (rg_seq FF18 MM18 [o_, t_ (.string (bs (List.replicate k 48))), o_] [42, 7, 6, 11, 4, 0, 1] (fun Kt => 0 ≤ k ∧ k ≤ (bs zs64).size ∧ Value.string ((bs zs64).extract 0 k) = .string (bs (List.replicate k 48)) ∧ Kt [(4, .string (bs (List.replicate k 48))), (42, .int .u8 (48 : Nat)), (7, .int .i64 (k : Nat)), (6, .int .u64 (k : Nat)), (11, .int .i64 (k : Nat)), (0, .string (bs [48])), (1, .int .i64 (k : Nat))] []) (by kernel_rfl) (fun _ => by kernel_rfl) (⟨(Nat.zero_le _), (by rw [bs_size, show zs64.length = 64 from (by kernel_rfl)]; have := hk; omega), (vS2 ((bs_extract _ _ _).trans (congrArg bs (zs_take hk)))), fun ac19 wd19 FF19 MM19 => then_n ?_⟩))
      refine wp_ret ?_
      repeat first | refine then_ret ?_ | refine inb_ret ?_
      exact (ret_fr FF19 0 Tryd.results46 rfl ⟨rfl, MM19.below⟩)

end Go.Proofs.YtdeiodcfblldgaaDoor
namespace Go.Proofs.YtdeiodcfblldgaaDoor
open Go.RowKit

theorem en_trimd : Enters Tryd.prog 34 := fun args w => by simp [go_sem]
theorem en_nof : Enters Tryd.prog 29 := fun args w => by simp [go_sem]
theorem en_nbytes : Enters Tryd.prog 20 := fun args w => by simp [go_sem]
theorem en_ntext : Enters Tryd.prog 27 := fun args w => by simp [go_sem]
theorem en_nbits : Enters Tryd.prog 26 := fun args w => by simp [go_sem]
theorem en_ncmp : Enters Tryd.prog 28 := fun args w => by simp [go_sem]
theorem en_digs : Enters Tryd.prog 39 := fun args w => by simp [go_sem]
theorem en_clone : Enters Tryd.prog 40 := fun args w => by simp [go_sem]
theorem en_parted : Enters Tryd.prog 43 := fun args w => by simp [go_sem]
theorem trim_len {X : List Nat} (hX : ∀ i, X.getD i 0 < 18446744073709551616) {n : Nat} (hn : n ≤ X.length) (h0 : ∀ i, n ≤ i → X.getD i 0 = 0) (h1 : n = 0 ∨ X.getD (n - 1) 0 ≠ 0) : n = qsz (qleV X) := by
  have := congrArg List.length (qtrim_ok hX hn h0 h1)
  rwa [qminB_len, List.length_take, Nat.min_eq_left hn] at this
theorem trim_zero {X : List Nat} {n : Nat} (h : n = qsz (qleV X)) (h0 : n = 0) : qleV X = 0 := by
  have := (qsz_ok (qleV X)).1
  rw [← h, h0] at this
  simpa using this
theorem trim_some {X : List Nat} {n : Nat} (_hX : ∀ i, X.getD i 0 < 18446744073709551616) (h : n = qsz (qleV X)) (h0 : ¬ n = 0) : ¬ qleV X = 0 := fun e => h0 (by rw [h, e]; rfl)
set_option maxRecDepth 100000 in
theorem trimd_O (O : Blks) (hD : Distinct O) (p : Option Addr) (c : Nat) (X : List Nat) (hX : ∀ i, X.getD i 0 < 18446744073709551616) (hc0 : X.length ≤ c) (hl : X.length < 4611686018427387904) (hA : CellsO O p X.length (fun j => .int .u64 (X.getD j 0 : Nat))) (w0 : World) (H : Has w0 O) :
    Calls Tryd.prog 34 #[.slice p X.length c] w0 fun e w' => e = .returned (trimV p (qleV X) c) ∧ Below w0.heap.size w0 w' := by
  refine enter_fr Tryd.func34 rfl Tryd.ntmps34 (by simp) fun ac (FF : Fr 23 ac [(0, .slice p X.length c)]) => ?_
  have MM : MemS (fun k => k < w0.heap.size ∧ ∀ x ∈ O, x.1 ≠ k) w0 w0 O [] := MemS.startN H hD
  refine wp_seq (rg_seq FF MM [o_] [0, 2] (fun Kt => Kt [(2, .slice none 0 0), (0, .slice p X.length c)] O) (by kernel_rfl) (fun _ => by kernel_rfl) (fun ac1 wd1 FF1 MM1 => then_n ?_))
  refine wp_seq (rg_seq FF1 MM1 [o_, o_, o_] [2, 0, 3] (fun Kt => Kt [(3, .int .i64 (X.length : Nat)), (2, .slice none 0 0), (0, .slice p X.length c)] O) (by kernel_rfl) (fun _ => by kernel_rfl) (fun ac2 wd2 FF2 MM2 => then_n ?_))
  refine wp_seq ?_
  refine wp_for2w (fun a' w' => ∃ n : Nat, n ≤ X.length ∧ (∀ i, n ≤ i → X.getD i 0 = 0) ∧ Fr 23 a' [(3, .int .i64 (n : Nat)), (2, .slice none 0 0), (0, .slice p X.length c)] ∧ MemS (fun k => k < w0.heap.size ∧ ∀ x ∈ O, x.1 ≠ k) w0 w' O []) (fun a' _ => (cnt 3 a').toNat) ⟨X.length, Nat.le_refl _, (fun _ h => getD_out h), FF2.pick [0, 1, 2], MM2⟩ ?_
  rintro ac3 wd3 ⟨n, hn, h0, FF3, MM3⟩
  have hc := cnt_of (FF3.get 0 rfl)
  by_cases h1 : n > 0
  · by_cases h2 : X.getD (n - 1) 0 = 0
    · skip
      refine rg_seq FF3 MM3 [o_, w_ 2, o_, o_, o_, o_, f_ (.pointer (some ⟨gOf p, n - 1, none⟩)), f_ (.int .u64 (X.getD (n - 1) 0 : Nat)), w_ 2, o_] [3, 2, 0, 15] (fun Kt => n > 0 ∧ 1 ≤ n ∧ n - 1 < 9223372036854775808 ∧ RunV Tryd.prog [(11, .int .i64 (n - 1 : Nat)), (10, .int .i64 (n : Nat)), (9, .slice p X.length c), (8, .bool true), (7, .bool true), (6, .int .i64 (n : Nat)), (3, .int .i64 (n : Nat)), (2, .slice none 0 0), (0, .slice p X.length c)] O (opAt Tryd.f34 2 6) (.pointer (some ⟨gOf p, n - 1, none⟩)) ∧ RunV Tryd.prog [(12, .pointer (some ⟨gOf p, n - 1, none⟩)), (11, .int .i64 (n - 1 : Nat)), (10, .int .i64 (n : Nat)), (9, .slice p X.length c), (8, .bool true), (7, .bool true), (6, .int .i64 (n : Nat)), (3, .int .i64 (n : Nat)), (2, .slice none 0 0), (0, .slice p X.length c)] O (opAt Tryd.f34 2 7) (.int .u64 (X.getD (n - 1) 0 : Nat)) ∧ (X.getD (n - 1) 0) = 0 ∧ Kt [(15, .bool true), (3, .int .i64 (n : Nat)), (2, .slice none 0 0), (0, .slice p X.length c)] O) (by kernel_rfl) (fun _ => by kernel_rfl) (⟨(by omega), (by omega), (by omega), (rowAddr_ok (x := (.tmp 9)) (y := (.tmp 11)) (by kernel_rfl) rfl rfl Tryd.underlying47 (by kernel_rfl) hA (by omega)), (rowLoad_ok (x := (.tmp 12)) (i := n - 1) (by kernel_rfl) rfl Tryd.underlying71 rfl hA (fun _ hx => hx) (by omega)), h2, fun ac4 wd4 FF4 MM4 => ?_⟩)
      refine then_n (.inl ⟨FF4.ev 0 rfl, ?_⟩)
      refine rg_seq FF4 MM4 [o_, o_, o_] [3, 2, 0] (fun Kt => 1 ≤ n ∧ n - 1 < 9223372036854775808 ∧ Kt [(3, .int .i64 (n - 1 : Nat)), (2, .slice none 0 0), (0, .slice p X.length c)] O) (by kernel_rfl) (fun _ => by kernel_rfl) (⟨(by omega), (by omega), fun ac5 wd5 FF5 MM5 => ?_⟩)
      refine inb_n ?_
      have hd := cnt_of (FF5.get 0 rfl)
      refine then_n ⟨⟨n - 1, by omega, fun i hi => (Nat.eq_or_lt_of_le hi).elim (fun e => e ▸ h2) (fun h => h0 i (by omega)), FF5.pick [0, 1, 2], MM5⟩, ?_⟩
      rw [hc, hd]; omega
    · skip
      refine rg_seq FF3 MM3 [o_, w_ 2, o_, o_, o_, o_, f_ (.pointer (some ⟨gOf p, n - 1, none⟩)), f_ (.int .u64 (X.getD (n - 1) 0 : Nat)), w_ 3, o_] [3, 2, 0, 15] (fun Kt => n > 0 ∧ 1 ≤ n ∧ n - 1 < 9223372036854775808 ∧ RunV Tryd.prog [(11, .int .i64 (n - 1 : Nat)), (10, .int .i64 (n : Nat)), (9, .slice p X.length c), (8, .bool true), (7, .bool true), (6, .int .i64 (n : Nat)), (3, .int .i64 (n : Nat)), (2, .slice none 0 0), (0, .slice p X.length c)] O (opAt Tryd.f34 2 6) (.pointer (some ⟨gOf p, n - 1, none⟩)) ∧ RunV Tryd.prog [(12, .pointer (some ⟨gOf p, n - 1, none⟩)), (11, .int .i64 (n - 1 : Nat)), (10, .int .i64 (n : Nat)), (9, .slice p X.length c), (8, .bool true), (7, .bool true), (6, .int .i64 (n : Nat)), (3, .int .i64 (n : Nat)), (2, .slice none 0 0), (0, .slice p X.length c)] O (opAt Tryd.f34 2 7) (.int .u64 (X.getD (n - 1) 0 : Nat)) ∧ ¬ ((X.getD (n - 1) 0) = 0) ∧ Kt [(15, .bool false), (3, .int .i64 (n : Nat)), (2, .slice none 0 0), (0, .slice p X.length c)] O) (by kernel_rfl) (fun _ => by kernel_rfl) (⟨(by omega), (by omega), (by omega), (rowAddr_ok (x := (.tmp 9)) (y := (.tmp 11)) (by kernel_rfl) rfl rfl Tryd.underlying47 (by kernel_rfl) hA (by omega)), (rowLoad_ok (x := (.tmp 12)) (i := n - 1) (by kernel_rfl) rfl Tryd.underlying71 rfl hA (fun _ hx => hx) (by omega)), h2, fun ac6 wd6 FF6 MM6 => ?_⟩)
      refine then_n (.inr ⟨FF6.ev 0 rfl, ?_⟩)
      have hz := trim_len hX hn h0 (by first | exact .inl (by omega) | exact .inr h2)
      refine then_n ?_
      refine wp_seq ?_
      refine wp_seq (rg_seq FF6 MM6 [o_, o_] [3, 2, 0, 19] (fun Kt => Kt [(19, .bool (decide (n = 0))), (3, .int .i64 (n : Nat)), (2, .slice none 0 0), (0, .slice p X.length c)] O) (by kernel_rfl) (fun _ => by kernel_rfl) (fun ac7 wd7 FF7 MM7 => then_n ?_))
      by_cases hs19 : n = 0
      · refine wp_cond_true ((FF7.ev 0 rfl).trans (dec_t hs19)) ?_
        have hN := trim_zero hz hs19
        refine wp_seq (rg_seq FF7 MM7 [o_] [3, 2, 0] (fun Kt => Kt [(2, .slice none 0 0), (3, .int .i64 (n : Nat)), (0, .slice p X.length c)] O) (by kernel_rfl) (fun _ => by kernel_rfl) (fun ac8 wd8 FF8 MM8 => then_n ?_))
        refine wp_ret ?_
        repeat first | refine then_ret ?_ | refine inb_ret ?_
        exact (ret_fr FF8 0 Tryd.results34 rfl ⟨congrArg Ending.returned (by rw [trimV_zero _ _ hN]), MM8.belowN H (fun _ hx => hx)⟩)
      · refine wp_cond_false ((FF7.ev 0 rfl).trans (dec_f hs19)) ?_
        have hN := trim_some hX hz hs19
        refine wp_skip ?_
        refine then_n ?_
        refine wp_seq (rg_seq FF7 MM7 [o_, o_, f_ (.slice p n c), o_] [3, 2, 0] (fun Kt => RunV Tryd.prog [(21, .int .i64 (n : Nat)), (20, .slice p X.length c), (19, .bool (decide (n = 0))), (3, .int .i64 (n : Nat)), (2, .slice none 0 0), (0, .slice p X.length c)] O (opAt Tryd.f34 6 2) (.slice p n c) ∧ Kt [(2, .slice p n c), (3, .int .i64 (n : Nat)), (0, .slice p X.length c)] O) (by kernel_rfl) (fun _ => by kernel_rfl) (⟨(sliceTo_ok (x := .tmp 20) (y := .tmp 21) (by kernel_rfl) rfl rfl Tryd.underlying47 (by kernel_rfl) hA (by omega) hn hc0), fun ac9 wd9 FF9 MM9 => then_n ?_⟩))
        refine wp_ret ?_
        repeat first | refine then_ret ?_ | refine inb_ret ?_
        exact (ret_fr FF9 0 Tryd.results34 rfl ⟨congrArg Ending.returned (by rw [trimV_pos _ _ hN, hz]), MM9.belowN H (fun _ hx => hx)⟩)
  · skip
    refine rg_seq FF3 MM3 [o_, w_ 3, o_, o_, o_, o_, o_, o_, o_, o_] [3, 2, 0, 15] (fun Kt => ¬ (n > 0) ∧ Kt [(15, .bool false), (3, .int .i64 (n : Nat)), (2, .slice none 0 0), (0, .slice p X.length c)] O) (by kernel_rfl) (fun _ => by kernel_rfl) (⟨(by omega), fun ac10 wd10 FF10 MM10 => ?_⟩)
    refine then_n (.inr ⟨FF10.ev 0 rfl, ?_⟩)
    have hz := trim_len hX hn h0 (by first | exact .inl (by omega) | exact .inr h2)
    refine then_n ?_
    refine wp_seq ?_
    refine wp_seq (rg_seq FF10 MM10 [o_, o_] [3, 2, 0, 19] (fun Kt => Kt [(19, .bool (decide (n = 0))), (3, .int .i64 (n : Nat)), (2, .slice none 0 0), (0, .slice p X.length c)] O) (by kernel_rfl) (fun _ => by kernel_rfl) (fun ac11 wd11 FF11 MM11 => then_n ?_))
    by_cases hs19 : n = 0
    · refine wp_cond_true ((FF11.ev 0 rfl).trans (dec_t hs19)) ?_
      have hN := trim_zero hz hs19
      refine wp_seq (rg_seq FF11 MM11 [o_] [3, 2, 0] (fun Kt => Kt [(2, .slice none 0 0), (3, .int .i64 (n : Nat)), (0, .slice p X.length c)] O) (by kernel_rfl) (fun _ => by kernel_rfl) (fun ac12 wd12 FF12 MM12 => then_n ?_))
      refine wp_ret ?_
      repeat first | refine then_ret ?_ | refine inb_ret ?_
      exact (ret_fr FF12 0 Tryd.results34 rfl ⟨congrArg Ending.returned (by rw [trimV_zero _ _ hN]), MM12.belowN H (fun _ hx => hx)⟩)
    · refine wp_cond_false ((FF11.ev 0 rfl).trans (dec_f hs19)) ?_
      have hN := trim_some hX hz hs19
      refine wp_skip ?_
      refine then_n ?_
      refine wp_seq (rg_seq FF11 MM11 [o_, o_, f_ (.slice p n c), o_] [3, 2, 0] (fun Kt => RunV Tryd.prog [(21, .int .i64 (n : Nat)), (20, .slice p X.length c), (19, .bool (decide (n = 0))), (3, .int .i64 (n : Nat)), (2, .slice none 0 0), (0, .slice p X.length c)] O (opAt Tryd.f34 6 2) (.slice p n c) ∧ Kt [(2, .slice p n c), (3, .int .i64 (n : Nat)), (0, .slice p X.length c)] O) (by kernel_rfl) (fun _ => by kernel_rfl) (⟨(sliceTo_ok (x := .tmp 20) (y := .tmp 21) (by kernel_rfl) rfl rfl Tryd.underlying47 (by kernel_rfl) hA (by omega) hn hc0), fun ac13 wd13 FF13 MM13 => then_n ?_⟩))
      refine wp_ret ?_
      repeat first | refine then_ret ?_ | refine inb_ret ?_
      exact (ret_fr FF13 0 Tryd.results34 rfl ⟨congrArg Ending.returned (by rw [trimV_pos _ _ hN, hz]), MM13.belowN H (fun _ hx => hx)⟩)
theorem cells_O {w : World} {p : Option Addr} {n : Nat} {V : Nat → Value} (h : CellsIn w p n V) : ∃ O : Blks, Has w O ∧ Distinct O ∧ CellsO O p n V := by
  rcases h with h | ⟨b, cs, T, fr, h1, h2, h3⟩
  · exact ⟨[], fun i x hx => by simp at hx, trivial, .inl h⟩
  · refine ⟨[(b, .cells cs T fr)], fun i x hx => ?_, ⟨fun y hy => (nomatch hy), trivial⟩, .inr ⟨b, cs, T, fr, h1, by simp, h3⟩⟩
    cases i with
    | zero => simp at hx; subst hx; exact h2
    | succ i => simp at hx
theorem trimd_any (p : Option Addr) (c : Nat) (X : List Nat) (hX : ∀ i, X.getD i 0 < 18446744073709551616) (hc0 : X.length ≤ c) (hl : X.length < 4611686018427387904) (w : World) (hA : CellsIn w p X.length (fun j => .int .u64 (X.getD j 0 : Nat))) :
    Calls Tryd.prog 34 #[.slice p X.length c] w fun e w' => e = .returned (trimV p (qleV X) c) ∧ Below w.heap.size w w' := by
  obtain ⟨O, h1, h2, h3⟩ := cells_O hA
  exact trimd_O O h2 p c X hX hc0 hl h3 w h1
theorem qleV_one (x : Nat) : qleV [x] = x := by simp [qleV]
theorem one_lt {x : Nat} (hx : x < 18446744073709551616) : ∀ i, [x].getD i 0 < 18446744073709551616 := fun i => by
  cases i with
  | zero => exact hx
  | succ i => simp
theorem MemS.fresh {w0 w : World} {L : Blks} {R : List Row} (M : MemS (fun k => k < w0.heap.size) w0 w L R) (i : Nat) {b : Nat} {ob : Obj} (h : L[i]? = some (b, ob)) : w0.heap.size ≤ b := Nat.le_of_not_lt (M.base i _ h)
set_option maxRecDepth 100000 in
theorem nof_any (x : Nat) (hx : x < 18446744073709551616) (w0 : World) :
    Calls Tryd.prog 29 #[.int .u64 (x : Nat)] w0 fun e w' => ∃ v, e = .returned (.agg #[nv x v]) ∧ Below w0.heap.size w0 w' ∧ NatNew w0.heap.size w' (nv x v) x := by
  refine enter_fr Tryd.func29 rfl Tryd.ntmps29 (by simp) fun ac (FF : Fr 7 ac [(0, .int .u64 (x : Nat))]) => ?_
  have MM := MemS.start w0
  refine wp_seq (rg_seq FF MM [o_] [0, 2] (fun Kt => ∀ br, Kt [(2, .pointer (some ⟨br, 0, none⟩)), (0, .int .u64 (x : Nat))] [(br, .cells (#[.slice none 0 0] : Array Value) 49)]) (by kernel_rfl) (fun _ => by kernel_rfl) (fun br => fun ac1 wd1 FF1 MM1 => then_n ?_))
  refine wp_seq (wp_region_list ?_)
  refine rg_part 2 FF1 MM1 [o_, o_] [2, 4] (fun Kt => ∀ bo, Kt [(4, .slice (some ⟨bo, 0, none⟩) 1 1), (2, .pointer (some ⟨br, 0, none⟩))] [(bo, .cells (cn .u64 [x]) 71), (br, .cells (#[.slice none 0 0] : Array Value) 49)]) (by kernel_rfl) (fun _ => by kernel_rfl) (fun bo => fun ac2 wd2 FF2 MM2 => ?_)
  refine rg_part 3 FF2 MM2 [u_ 1 (trimV (some ⟨bo, 0, none⟩) x 1), o_, b_ 1] [2] (fun Kt => CallP Tryd.prog 34 [.slice (some ⟨bo, 0, none⟩) 1 1] [(bo, .cells (cn .u64 [x]) 71), (br, .cells (#[.slice none 0 0] : Array Value) 49)] (trimV (some ⟨bo, 0, none⟩) x 1) ∧ br = br ∧ (#[.slice none 0 0] : Array Value).size = 1 ∧ (#[trimV (some ⟨bo, 0, none⟩) x 1] : Array Value).size = 1 ∧ (#[trimV (some ⟨bo, 0, none⟩) x 1] : Array Value).all (·.oneCell') = true ∧ (0, 0).2 = 0 ∧ Kt [(2, .pointer (some ⟨br, 0, none⟩))] [(bo, .cells (cn .u64 [x]) 71), (br, .cells (#[trimV (some ⟨bo, 0, none⟩) x 1] : Array Value) 49)]) (by kernel_rfl) (fun _ => by kernel_rfl) (⟨⟨en_trimd, fun w Hw => by have h0 := trimd_any (some ⟨bo, 0, none⟩) 1 [x] (one_lt hx) (by simp) (by simp) w (.inr ⟨bo, _, _, _, rfl, Hw 0 _ rfl, fun j hj => cn_get _ _ _ hj⟩); rw [show [x].length = 1 from rfl, qleV_one] at h0; exact h0⟩, rfl, rfl, rfl, (by kernel_rfl), rfl, fun ac3 wd3 FF3 MM3 => ?_⟩)
  refine wpl_nil (then_n ?_)
  refine wp_ret ?_
  repeat first | refine then_ret ?_ | refine inb_ret ?_
  exact (retc FF3 MM3 (k := 1) (i := 1) (j := 0) Tryd.results29 rfl rfl Tryd.underlying49 rfl (by kernel_rfl) rfl ⟨trimV (some ⟨bo, 0, none⟩) x 1, rfl, MM3.below, by have h0 := trim_new0 (c := 1) (X := [x]) (base := w0.heap.size) (one_lt hx) (by simp) (MM3.get 0 rfl) (MM3.fresh 0 rfl); rw [qleV_one] at h0; exact h0⟩)
theorem qleB_nil (X : List Nat) (m : Nat) : qleB m (leV (X.take 0)) = List.replicate m 0 := by
  refine ext_getD (by simp [qleB_len]) fun i hi => ?_
  rw [qleB_len] at hi
  rw [qleB_get hi, rep_get]
  simp [leV]
theorem pow8 (k : Nat) : 18446744073709551616 ^ k = 256 ^ (8 * k) := by rw [Nat.pow_mul]
theorem leV_take {X : List Nat} (hX : ∀ i, X.getD i 0 < 256) (i : Nat) : leV (X.take i) < 256 ^ i := by
  have := leV_lt (X.take i) (take_lt hX)
  exact Nat.lt_of_lt_of_le this (pw_le (by simp; omega))
theorem leV_take1 {X : List Nat} {i : Nat} (h : i < X.length) : leV (X.take (i + 1)) = leV (X.take i) + 256 ^ i * X.getD i 0 := by
  rw [List.take_add_one, leV_app, List.getElem?_eq_getElem h]
  simp [leV, Nat.min_eq_left (Nat.le_of_lt h), List.getD_eq_getElem?_getD, List.getElem?_eq_getElem h]
/-- A byte more. -/
theorem word_more {N i x : Nat} (hN : N < 256 ^ i) (hx : x < 256) (j : Nat) : qd (N + 256 ^ i * x) j = if j = i / 8 then qd N j ||| x * 2 ^ (8 * (i % 8)) % 18446744073709551616 else qd N j := by
  have hi : 256 ^ i = 18446744073709551616 ^ (i / 8) * 256 ^ (i % 8) := by rw [pow8, ← Nat.pow_add]; congr 1; omega
  have h8 : 256 ^ (i % 8) * 256 ≤ 18446744073709551616 := by
    rw [← Nat.pow_succ]
    exact Nat.le_trans (pw_le (show i % 8 + 1 ≤ 8 by omega)) (by decide)
  have e2 : 2 ^ (8 * (i % 8)) = 256 ^ (i % 8) := by rw [Nat.pow_mul]
  rcases Nat.lt_trichotomy j (i / 8) with h | h | h
  · rw [if_neg (by omega)]
    unfold qd
    have : 256 ^ i * x = 18446744073709551616 ^ j * (18446744073709551616 * (18446744073709551616 ^ (i / 8 - j - 1) * 256 ^ (i % 8) * x)) := by
      rw [hi, show 18446744073709551616 ^ (i / 8) = 18446744073709551616 ^ j * (18446744073709551616 * 18446744073709551616 ^ (i / 8 - j - 1)) by rw [← Nat.pow_succ', ← Nat.pow_add]; congr 1; omega]
      simp only [Nat.mul_assoc]
    rw [this, Nat.add_mul_div_left _ _ (Nat.pow_pos (by decide)), Nat.add_mul_mod_self_left]
  · subst h
    rw [if_pos rfl]
    unfold qd
    rw [hi, Nat.mul_assoc, Nat.add_mul_div_left _ _ (Nat.pow_pos (by decide)), e2]
    have hq : N / 18446744073709551616 ^ (i / 8) < 256 ^ (i % 8) := Nat.div_lt_of_lt_mul (by rw [← hi]; exact hN)
    have hlt : N / 18446744073709551616 ^ (i / 8) < 18446744073709551616 := by omega
    have hx8 : 256 ^ (i % 8) * x < 18446744073709551616 := Nat.lt_of_lt_of_le ((Nat.mul_lt_mul_left (Nat.pow_pos (by decide))).2 hx) h8
    have hs : 256 ^ (i % 8) * (x + 1) ≤ 18446744073709551616 := Nat.le_trans (Nat.mul_le_mul_left _ hx) h8
    rw [Nat.mod_eq_of_lt hlt, Nat.mul_comm x, Nat.mod_eq_of_lt hx8, Nat.mul_comm (256 ^ (i % 8)) x, ← e2, or_shl _ (by rw [e2]; exact hq), Nat.mod_eq_of_lt]
    rw [e2, Nat.mul_comm x]
    rw [Nat.mul_add, Nat.mul_one] at hs
    omega
  · rw [if_neg (by omega)]
    unfold qd
    have hb : 256 ^ i * 256 ≤ 18446744073709551616 ^ j := by
      rw [pow8, ← Nat.pow_succ]; exact pw_le (by omega)
    have h1 : N + 256 ^ i * x < 18446744073709551616 ^ j := by
      have : 256 ^ i * (x + 1) ≤ 256 ^ i * 256 := Nat.mul_le_mul_left _ hx
      rw [Nat.mul_add, Nat.mul_one] at this
      omega
    rw [Nat.div_eq_of_lt h1, Nat.div_eq_of_lt (Nat.lt_of_le_of_lt (Nat.le_add_right _ _) h1)]
theorem bytes_step {X : List Nat} (hX : ∀ i, X.getD i 0 < 256) {i m : Nat} (hi : i < X.length) (hm : i / 8 < m) : (qleB m (leV (X.take i))).set (i / 8) (qd (leV (X.take i)) (i / 8) ||| X.getD i 0 * 2 ^ (8 * (i % 8)) % 18446744073709551616) = qleB m (leV (X.take (i + 1))) := by
  refine ext_getD (by simp [qleB_len]) fun j hj => ?_
  simp only [List.length_set, qleB_len] at hj
  rw [getD_set, qleB_get hj, leV_take1 hi, qleB_get hj, qleB_len]
  have := word_more (leV_take hX i) (hX i) j
  unfold qd at this ⊢
  rw [this]
  by_cases e : i / 8 = j
  · subst e; rw [if_pos ⟨rfl, hm⟩, if_pos rfl]
  · rw [if_neg (fun h => e h.1), if_neg (fun h => e h.symm)]
theorem qleV_bytes {X : List Nat} (hX : ∀ i, X.getD i 0 < 256) : qleV (qleB ((X.length + 7) / 8) (leV X)) = leV X := by
  rw [qleV_leB, Nat.mod_eq_of_lt]
  rw [pow8]
  exact Nat.lt_of_lt_of_le (leV_lt X hX) (pw_le (by omega))
set_option maxRecDepth 100000 in
theorem nbytes_any (X : List Nat) (hX : ∀ i, X.getD i 0 < 256) (hl : X.length < 1000000000) (w0 : World) :
    Calls Tryd.prog 20 #[.string (bs X)] w0 fun e w' => ∃ v, e = .returned (.agg #[nv (leV X) v]) ∧ Below w0.heap.size w0 w' ∧ NatNew w0.heap.size w' (nv (leV X) v) (leV X) := by
  refine enter_fr Tryd.func20 rfl Tryd.ntmps20 (by simp) fun ac (FF : Fr 35 ac [(0, .string (bs X))]) => ?_
  have MM := MemS.start w0
  refine wp_seq (rg_seq FF MM [o_] [0, 2] (fun Kt => ∀ br, Kt [(2, .pointer (some ⟨br, 0, none⟩)), (0, .string (bs X))] [(br, .cells (#[.slice none 0 0] : Array Value) 49)]) (by kernel_rfl) (fun _ => by kernel_rfl) (fun br => fun ac1 wd1 FF1 MM1 => then_n ?_))
  refine wp_seq (rg_seq FF1 MM1 [o_, t_ (.int .i64 (X.length : Nat)), o_, t_ (.int .i64 (X.length + 7 : Nat)), t_ (.int .i64 ((X.length + 7) / 8 : Nat)), n_ (.slice none ((X.length + 7) / 8) ((X.length + 7) / 8)) (.cells (cn .u64 (List.replicate ((X.length + 7) / 8) 0)) 71), o_] [2, 0, 3] (fun Kt => Value.int .i64 ((bs X).size : Nat) = .int .i64 (X.length : Nat) ∧ X.length + 8 < 9223372036854775808 ∧ 1 ≤ (X.length + 8) ∧ (X.length + 8) - 1 < 9223372036854775808 ∧ Value.int .i64 ((X.length + 8) - 1 : Nat) = .int .i64 (X.length + 7 : Nat) ∧ 8 ≠ 0 ∧ (X.length + 7) / 8 < 9223372036854775808 ∧ Value.int .i64 ((X.length + 7) / 8 : Nat) = .int .i64 ((X.length + 7) / 8 : Nat) ∧ RunN Tryd.prog [(9, .int .i64 ((X.length + 7) / 8 : Nat)), (8, .int .i64 (X.length + 7 : Nat)), (7, .int .i64 (X.length + 8 : Nat)), (6, .int .i64 (X.length : Nat)), (5, .string (bs X)), (2, .pointer (some ⟨br, 0, none⟩)), (0, .string (bs X))] [(br, .cells (#[.slice none 0 0] : Array Value) 49)] (opAt Tryd.f20 1 5) (mkOf (.slice none ((X.length + 7) / 8) ((X.length + 7) / 8))) (.cells (cn .u64 (List.replicate ((X.length + 7) / 8) 0)) 71) ∧ ∀ bo, Kt [(3, .slice (some ⟨bo, 0, none⟩) ((X.length + 7) / 8) ((X.length + 7) / 8)), (2, .pointer (some ⟨br, 0, none⟩)), (0, .string (bs X))] [(bo, .cells (cn .u64 (List.replicate ((X.length + 7) / 8) 0)) 71), (br, .cells (#[.slice none 0 0] : Array Value) 49)]) (by kernel_rfl) (fun _ => by kernel_rfl) (⟨(vI (bs_size _)), (by omega), (by omega), (by omega), (vI (by omega)), (by decide), (by omega), rfl, (make64_ok (t := 47) (e := 71) (p := (.tmp 9)) (q := (.tmp 9)) (by kernel_rfl) rfl rfl Tryd.underlying47 (by kernel_rfl) (by omega)), fun bo => fun ac2 wd2 FF2 MM2 => then_n ?_⟩))
  have MMr : MemS (fun k => k < w0.heap.size) w0 wd2 [(bo, .cells (cn .u64 (qleB ((X.length + 7) / 8) (leV (X.take 0)))) 71), (br, .cells (#[.slice none 0 0] : Array Value) 49)] [] := by rw [show qleB ((X.length + 7) / 8) (leV (X.take 0)) = List.replicate ((X.length + 7) / 8) 0 from qleB_nil _ _]; exact MM2
  refine wp_seq ?_
  refine wp_seq (rg_seq FF2 MMr [o_, t_ (.int .i64 (X.length : Nat)), o_] [3, 2, 0, 12, 13] (fun Kt => Value.int .i64 ((bs X).size : Nat) = .int .i64 (X.length : Nat) ∧ Kt [(13, .int .i64 (0 : Nat)), (12, .int .i64 (X.length : Nat)), (3, .slice (some ⟨bo, 0, none⟩) ((X.length + 7) / 8) ((X.length + 7) / 8)), (2, .pointer (some ⟨br, 0, none⟩)), (0, .string (bs X))] [(bo, .cells (cn .u64 (qleB ((X.length + 7) / 8) (leV (X.take 0)))) 71), (br, .cells (#[.slice none 0 0] : Array Value) 49)]) (by kernel_rfl) (fun _ => by kernel_rfl) (⟨(vI (bs_size _)), fun ac3 wd3 FF3 MM3 => then_n ?_⟩))
  refine wp_for (fun a' w' => ∃ i : Nat, i ≤ X.length ∧ Fr 35 a' [(13, .int .i64 (i : Nat)), (12, .int .i64 (X.length : Nat)), (3, .slice (some ⟨bo, 0, none⟩) ((X.length + 7) / 8) ((X.length + 7) / 8)), (2, .pointer (some ⟨br, 0, none⟩)), (0, .string (bs X))] ∧ MemS (fun k => k < w0.heap.size) w0 w' [(bo, .cells (cn .u64 (qleB ((X.length + 7) / 8) (leV (X.take i)))) 71), (br, .cells (#[.slice none 0 0] : Array Value) 49)] []) (fun a' _ => (X.length - cnt 13 a').toNat) ⟨0, by omega, FF3.pick [0, 1, 2, 3, 4], MM3⟩ ?_
  rintro ac4 wd4 ⟨i, hi, FF4, MM4⟩
  have hc := cnt_of (FF4.get 0 rfl)
  refine rg_seq FF4 MM4 [o_] [13, 12, 3, 2, 0, 14] (fun Kt => Kt [(14, .bool (decide (i < X.length))), (13, .int .i64 (i : Nat)), (12, .int .i64 (X.length : Nat)), (3, .slice (some ⟨bo, 0, none⟩) ((X.length + 7) / 8) ((X.length + 7) / 8)), (2, .pointer (some ⟨br, 0, none⟩)), (0, .string (bs X))] [(bo, .cells (cn .u64 (qleB ((X.length + 7) / 8) (leV (X.take i)))) 71), (br, .cells (#[.slice none 0 0] : Array Value) 49)]) (by kernel_rfl) (fun _ => by kernel_rfl) (fun ac5 wd5 FF5 MM5 => ?_)
  by_cases hlt : i < X.length
  · skip
    refine then_n (.inl ⟨(FF5.ev 0 rfl).trans (dec_t hlt), ?_⟩)
    refine wp_seq (rg_seq FF5 MM5 [o_, o_] [13, 12, 3, 2, 0, 4] (fun Kt => Kt [(4, .int .i64 (i : Nat)), (13, .int .i64 (i : Nat)), (12, .int .i64 (X.length : Nat)), (3, .slice (some ⟨bo, 0, none⟩) ((X.length + 7) / 8) ((X.length + 7) / 8)), (2, .pointer (some ⟨br, 0, none⟩)), (0, .string (bs X))] [(bo, .cells (cn .u64 (qleB ((X.length + 7) / 8) (leV (X.take i)))) 71), (br, .cells (#[.slice none 0 0] : Array Value) 49)]) (by kernel_rfl) (fun _ => by kernel_rfl) (fun ac6 wd6 FF6 MM6 => then_n ?_))
    refine rg_draw FF6 MM6 [.inl (.slice (some ⟨bo, 0, none⟩) ((X.length + 7) / 8) ((X.length + 7) / 8)), .inl (.int .i64 (i : Nat)), .inl (.int .i64 (i / 8 : Nat)), .inl (.pointer (some ⟨bo, i / 8, none⟩)), .inl (.int .u64 (qd (leV (X.take i)) (i / 8) : Nat)), .inl (.string (bs X)), .inl (.int .i64 (i : Nat)), .inl (.int .u8 (X.getD i 0 : Nat)), .inl (.int .u64 (X.getD i 0 : Nat)), .inl (.int .i64 (i : Nat)), .inl (.int .i64 (i % 8 : Nat)), .inl (.int .i64 (8 * (i % 8) : Nat)), .inl (.int .u64 ((X.getD i 0) * (2 ^ (8 * (i % 8))) % 18446744073709551616 : Nat)), .inl (.int .u64 ((qd (leV (X.take i)) (i / 8)) ||| ((X.getD i 0) * (2 ^ (8 * (i % 8))) % 18446744073709551616) : Nat)), .inl (.pointer (some ⟨bo, i / 8, none⟩))] [] [o_, o_, o_, w_ 1, l_ 0 (.int .u64 (qd (leV (X.take i)) (i / 8) : Nat)), o_, o_, t_ (.int .u8 (X.getD i 0 : Nat)), w_ 1, o_, o_, o_, o_, o_, w_ 1] [s_ 0 (.cells (cn .u64 (qleB ((X.length + 7) / 8) (leV (X.take (i + 1))))) 71)] [4, 13, 12, 3, 2, 0] (fun nb => [8 ≠ 0, i / 8 < 9223372036854775808, (i / 8) < ((X.length + 7) / 8), bo = bo, (cn .u64 (qleB ((X.length + 7) / 8) (leV (X.take i))))[i / 8]? = some (.int .u64 (qd (leV (X.take i)) (i / 8) : Nat)), i < (bs X).size, (nl (bs X)).getD i 0 = X.getD i 0, (X.getD i 0) < 18446744073709551616, 8 ≠ 0, 8 * (i % 8) < 9223372036854775808, (qd (leV (X.take i)) (i / 8)) < 18446744073709551616, ((X.getD i 0) * (2 ^ (8 * (i % 8))) % 18446744073709551616) < 18446744073709551616, (i / 8) < ((X.length + 7) / 8)]) (fun nb Kt => bo = bo ∧ i / 8 < (cn .u64 (qleB ((X.length + 7) / 8) (leV (X.take i)))).size ∧ (((0, 0)).2 = 0 ∨ i / 8 < ((0, 0)).1) ∧ (cn .u64 (qleB ((X.length + 7) / 8) (leV (X.take i)))).setIfInBounds (i / 8) (.int .u64 ((qd (leV (X.take i)) (i / 8)) ||| ((X.getD i 0) * (2 ^ (8 * (i % 8))) % 18446744073709551616) : Nat)) = cn .u64 (qleB ((X.length + 7) / 8) (leV (X.take (i + 1)))) ∧ Kt [(4, .int .i64 (i : Nat)), (13, .int .i64 (i : Nat)), (12, .int .i64 (X.length : Nat)), (3, .slice (some ⟨bo, 0, none⟩) ((X.length + 7) / 8) ((X.length + 7) / 8)), (2, .pointer (some ⟨br, 0, none⟩)), (0, .string (bs X))] [(bo, .cells (cn .u64 (qleB ((X.length + 7) / 8) (leV (X.take (i + 1))))) 71), (br, .cells (#[.slice none 0 0] : Array Value) 49)]) (by kernel_rfl) (by kernel_rfl) (by kernel_rfl) (fun _ => by kernel_rfl) (fun _ _ => by kernel_rfl) trivial (fun nb => ⟨(by decide), (by omega), (by omega), rfl, ((cn_get _ _ _ (by rw [qleB_len]; omega)).trans (congrArg some (vI (qleB_get (by omega))))), (by simp only [bs_size]; omega), (byte_bs hX _), (by have := hX i; omega), (by decide), (by omega), (qd_lt _ _), (Nat.mod_lt _ (by decide)), (by omega), trivial⟩) (fun nb => ⟨rfl, (by rw [cn_size, (qleB_len _ _)]; omega), (.inl rfl), ((cn_set _ _ _ _).trans (congrArg _ (bytes_step hX (by omega) (by omega)))), fun ac7 wd7 FF7 MM7 => ?_⟩)
    refine inb_n (then_n ?_)
    refine rg_seq FF7 MM7 [o_, o_] [4, 13, 12, 3, 2, 0] (fun Kt => i + 1 < 9223372036854775808 ∧ Kt [(13, .int .i64 (i + 1 : Nat)), (4, .int .i64 (i : Nat)), (12, .int .i64 (X.length : Nat)), (3, .slice (some ⟨bo, 0, none⟩) ((X.length + 7) / 8) ((X.length + 7) / 8)), (2, .pointer (some ⟨br, 0, none⟩)), (0, .string (bs X))] [(bo, .cells (cn .u64 (qleB ((X.length + 7) / 8) (leV (X.take (i + 1))))) 71), (br, .cells (#[.slice none 0 0] : Array Value) 49)]) (by kernel_rfl) (fun _ => by kernel_rfl) (⟨(by omega), fun ac8 wd8 FF8 MM8 => ?_⟩)
    have hd := cnt_of (FF8.get 0 rfl)
    refine then_n ⟨⟨i + 1, by omega, FF8.pick [0, 2, 3, 4, 5], MM8⟩, ?_⟩
    rw [hc, hd]; omega
  · skip
    refine then_n (.inr ⟨(FF5.ev 0 rfl).trans (dec_f hlt), ?_⟩)
    obtain rfl : i = X.length := by omega
    have MMl : MemS (fun k => k < w0.heap.size) w0 wd5 [(bo, .cells (cn .u64 (qleB ((X.length + 7) / 8) (leV X))) 71), (br, .cells (#[.slice none 0 0] : Array Value) 49)] [] := by rw [List.take_length] at MM5; exact MM5
    refine then_n ?_
    refine wp_seq (rg_seq FF5 MMl [o_, u_ 1 (trimV (some ⟨bo, 0, none⟩) (leV X) ((X.length + 7) / 8)), o_, b_ 1] [13, 12, 3, 2, 0] (fun Kt => CallP Tryd.prog 34 [.slice (some ⟨bo, 0, none⟩) ((X.length + 7) / 8) ((X.length + 7) / 8)] [(bo, .cells (cn .u64 (qleB ((X.length + 7) / 8) (leV X))) 71), (br, .cells (#[.slice none 0 0] : Array Value) 49)] (trimV (some ⟨bo, 0, none⟩) (leV X) ((X.length + 7) / 8)) ∧ br = br ∧ (#[.slice none 0 0] : Array Value).size = 1 ∧ (#[trimV (some ⟨bo, 0, none⟩) (leV X) ((X.length + 7) / 8)] : Array Value).size = 1 ∧ (#[trimV (some ⟨bo, 0, none⟩) (leV X) ((X.length + 7) / 8)] : Array Value).all (·.oneCell') = true ∧ (0, 0).2 = 0 ∧ Kt [(13, .int .i64 (X.length : Nat)), (12, .int .i64 (X.length : Nat)), (3, .slice (some ⟨bo, 0, none⟩) ((X.length + 7) / 8) ((X.length + 7) / 8)), (2, .pointer (some ⟨br, 0, none⟩)), (0, .string (bs X))] [(bo, .cells (cn .u64 (qleB ((X.length + 7) / 8) (leV X))) 71), (br, .cells (#[trimV (some ⟨bo, 0, none⟩) (leV X) ((X.length + 7) / 8)] : Array Value) 49)]) (by kernel_rfl) (fun _ => by kernel_rfl) (⟨⟨en_trimd, fun w Hw => by have h0 := trimd_any (some ⟨bo, 0, none⟩) ((X.length + 7) / 8) (qleB ((X.length + 7) / 8) (leV X)) (qleB_lt _ _) (by rw [qleB_len]; exact Nat.le_refl _) (by rw [qleB_len]; omega) w (.inr ⟨bo, _, _, _, rfl, Hw 0 _ rfl, fun j hj => cn_get _ _ _ hj⟩); rw [show (qleB ((X.length + 7) / 8) (leV X)).length = (X.length + 7) / 8 from (qleB_len _ _), qleV_bytes hX] at h0; exact h0⟩, rfl, rfl, rfl, (by kernel_rfl), rfl, fun ac9 wd9 FF9 MM9 => then_n ?_⟩))
    refine wp_ret ?_
    repeat first | refine then_ret ?_ | refine inb_ret ?_
    exact (retc FF9 MM9 (k := 1) (i := 1) (j := 3) Tryd.results20 rfl rfl Tryd.underlying49 rfl (by kernel_rfl) rfl ⟨trimV (some ⟨bo, 0, none⟩) (leV X) ((X.length + 7) / 8), rfl, MM9.below, by have h0 := trim_new0 (c := (X.length + 7) / 8) (X := qleB ((X.length + 7) / 8) (leV X)) (base := w0.heap.size) (qleB_lt _ _) (by rw [qleB_len]; exact Nat.le_refl _) (MM9.get 0 rfl) (MM9.fresh 0 rfl); rw [qleV_bytes hX] at h0; exact h0⟩)

end Go.Proofs.YtdeiodcfblldgaaDoor
namespace Go.Proofs.YtdeiodcfblldgaaDoor
open Go.RowKit

theorem natO_cells {O : Blks} {N : Nat} {x : Value} (h : NatO O (nv N x) N) : CellsO O (pOf x) (qsz N) (fun j => .int .u64 (qd N j : Nat)) := by
  obtain ⟨p, c, h1, _, _, _, h4⟩ := h
  simp only [nv, Value.slice.injEq] at h1
  rw [h1.1]; exact h4
theorem natO_none {O : Blks} {N : Nat} {x : Value} (h : NatO O (nv N x) N) : (pOf x).isNone = decide (N = 0) := by
  obtain ⟨p, c, h1, h2, h3, _⟩ := h
  simp only [nv, Value.slice.injEq] at h1
  rw [h1.1]
  by_cases hN : N = 0
  · simp [hN, (h2 hN).1]
  · have := h3 hN
    cases p with
    | none => exact (this rfl).elim
    | some a => simp [hN]
theorem natO_cap {O : Blks} {N : Nat} {x : Value} (h : NatO O (nv N x) N) : qsz N ≤ cOf x := by
  obtain ⟨p, c, h1, _, _, h3, _⟩ := h
  simp only [nv, Value.slice.injEq] at h1
  rw [h1.2.2]; exact h3
/-- A number of at most 64 bits. -/
def lowN (M : Nat) : Nat := if M < 18446744073709551616 then M else 0
theorem qz0 {M : Nat} (h : qsz M = 0) : M = 0 := by have := (qsz_ok M).1; rw [h] at this; simpa using this
theorem low0 {M : Nat} (h : qsz M = 0) : 0 = lowN M ∧ true = decide (M < 18446744073709551616) := by rw [qz0 h]; exact ⟨rfl, rfl⟩
theorem low1 {M : Nat} (h : qsz M = 1) : qd M 0 = lowN M ∧ true = decide (M < 18446744073709551616) := by
  have h1 := (qsz_ok M).1
  rw [h, Nat.pow_one] at h1
  rw [qd, lowN, if_pos h1, Nat.pow_zero, Nat.div_one, Nat.mod_eq_of_lt h1, decide_eq_true h1]
  exact ⟨rfl, rfl⟩
theorem low2 {M : Nat} (h0 : ¬ qsz M = 0) (h1 : ¬ qsz M = 1) : 0 = lowN M ∧ false = decide (M < 18446744073709551616) := by
  have h2 : ¬ M < 18446744073709551616 := fun h => by have := qsz_le (N := M) (n := 1) (by simpa using h); omega
  rw [lowN, if_neg h2, decide_eq_false h2]
  exact ⟨rfl, rfl⟩
theorem bits_top {M : Nat} (h : ¬ qsz M = 0) : (qsz M - 1) * 64 + bsz (qd M (qsz M - 1)) = bsz M := by
  have h2 := (qsz_ok M).2.resolve_left h
  have e : 18446744073709551616 ^ (qsz M - 1) = 2 ^ ((qsz M - 1) * 64) := by rw [show 18446744073709551616 = 2 ^ 64 by rfl, ← Nat.pow_mul, Nat.mul_comm]
  have h1 := (qsz_ok M).1
  have e2 : 18446744073709551616 ^ qsz M = 18446744073709551616 ^ (qsz M - 1) * 18446744073709551616 := by rw [← Nat.pow_succ]; congr 1; omega
  rw [bsz_div (k := (qsz M - 1) * 64) (x := M) (by rw [← e]; exact h2), ← e]
  unfold qd
  rw [Nat.mod_eq_of_lt (Nat.div_lt_of_lt_mul (by rw [← e2]; exact h1))]
theorem cmp_sizes {M N : Nat} (h : qsz M ≠ qsz N) : cmpN (qsz M) (qsz N) = cmpN M N := by
  rcases Nat.lt_or_gt_of_ne h with c | c
  · have := qcmp_len c
    rw [cmpN, if_pos c, cmpN, if_pos this]
  · have := qcmp_len c
    rw [cmpN, if_neg (by omega), if_neg (by omega), cmpN, if_neg (by omega), if_neg (by omega)]
theorem qd_step (M i : Nat) : M / 18446744073709551616 ^ i % 18446744073709551616 = qd M i := rfl
theorem cmp_word {M N j : Nat} (hq : M / 18446744073709551616 ^ (j + 1) = N / 18446744073709551616 ^ (j + 1)) (h : qd M j ≠ qd N j) : cmpN (qd M j) (qd N j) = cmpN M N := by
  rcases Nat.lt_or_gt_of_ne h with c | c
  · have := qcmp_lt hq c
    rw [cmpN, if_pos c, cmpN, if_pos this]
  · have := qcmp_lt hq.symm c
    rw [cmpN, if_neg (by omega), if_neg (by omega), cmpN, if_neg (by omega), if_neg (by omega)]
set_option maxRecDepth 100000 in
theorem nbits_O (O : Blks) (hD : Distinct O) (M : Nat) (x : Value) (hM : NatO O (nv M x) M) (hs : qsz M < 1000000)  (w0 : World) (H : Has w0 O) :
    Calls Tryd.prog 26 #[.agg #[nv M x]] w0 fun e w' => e = .returned (.int .i64 (bsz M : Nat)) ∧ Below w0.heap.size w0 w' := by
  refine enter_fr Tryd.func26 rfl Tryd.ntmps26 (by simp) fun ac (FF : Fr 20 ac [(0, .agg (#[nv M x] : Array Value))]) => ?_
  have MM : MemS (fun k => k < w0.heap.size ∧ ∀ x ∈ O, x.1 ≠ k) w0 w0 O [] := MemS.startN H hD
  refine wp_seq (rg_seq FF MM [o_, o_] [1, 2] (fun Kt => ∀ b1, Kt [(2, .int .i64 (0 : Nat)), (1, .pointer (some ⟨b1, 0, none⟩))] ((b1, .cells (#[nv M x] : Array Value) 49) :: O)) (by kernel_rfl) (fun _ => by kernel_rfl) (fun b1 => fun ac1 wd1 FF1 MM1 => then_n ?_))
  refine wp_seq (rg_seq FF1 MM1 [o_, l_ 0 (nv M x), o_, o_] [2, 1, 3] (fun Kt => b1 = b1 ∧ (#[nv M x] : Array Value)[0]? = some (nv M x) ∧ Kt [(3, .int .i64 (qsz M : Nat)), (2, .int .i64 (0 : Nat)), (1, .pointer (some ⟨b1, 0, none⟩))] ((b1, .cells (#[nv M x] : Array Value) 49) :: O)) (by kernel_rfl) (fun _ => by kernel_rfl) (⟨rfl, rfl, fun ac2 wd2 FF2 MM2 => then_n ?_⟩))
  refine wp_seq ?_
  refine wp_seq (rg_seq FF2 MM2 [o_, o_] [3, 2, 1, 8] (fun Kt => Kt [(8, .bool (decide ((qsz M) = 0))), (3, .int .i64 (qsz M : Nat)), (2, .int .i64 (0 : Nat)), (1, .pointer (some ⟨b1, 0, none⟩))] ((b1, .cells (#[nv M x] : Array Value) 49) :: O)) (by kernel_rfl) (fun _ => by kernel_rfl) (fun ac3 wd3 FF3 MM3 => then_n ?_))
  by_cases hs8 : (qsz M) = 0
  · refine wp_cond_true ((FF3.ev 0 rfl).trans (dec_t hs8)) ?_
    refine wp_seq (rg_seq FF3 MM3 [t_ (.int .i64 (bsz M : Nat))] [3, 2, 1] (fun Kt => Value.int .i64 (0 : Nat) = .int .i64 (bsz M : Nat) ∧ Kt [(2, .int .i64 (bsz M : Nat)), (3, .int .i64 (qsz M : Nat)), (1, .pointer (some ⟨b1, 0, none⟩))] ((b1, .cells (#[nv M x] : Array Value) 49) :: O)) (by kernel_rfl) (fun _ => by kernel_rfl) (⟨(vI (by rw [qz0 hs8]; rfl)), fun ac4 wd4 FF4 MM4 => then_n ?_⟩))
    refine wp_ret ?_
    repeat first | refine then_ret ?_ | refine inb_ret ?_
    exact (ret_fr FF4 0 Tryd.results26 rfl ⟨rfl, MM4.belowN H (fun _ hx => List.mem_cons_of_mem _ (hx))⟩)
  · refine wp_cond_false ((FF3.ev 0 rfl).trans (dec_f hs8)) ?_
    refine wp_skip ?_
    refine then_n ?_
    refine wp_seq (rg_seq FF3 MM3 [o_, o_, o_, o_, l_ 0 (nv M x), o_, o_, f_ (.pointer (some ⟨gOf (pOf x), (qsz M) - 1, none⟩)), f_ (.int .u64 (qd M ((qsz M) - 1) : Nat)), t_ (.int .i64 (bsz (qd M ((qsz M) - 1)) : Nat)), t_ (.int .i64 (bsz M : Nat)), o_] [3, 2, 1] (fun Kt => 1 ≤ (qsz M) ∧ (qsz M) - 1 < 9223372036854775808 ∧ ((qsz M) - 1) * 64 < 9223372036854775808 ∧ b1 = b1 ∧ (#[nv M x] : Array Value)[0]? = some (nv M x) ∧ 1 ≤ (qsz M) ∧ (qsz M) - 1 < 9223372036854775808 ∧ RunV Tryd.prog [(15, .int .i64 ((qsz M) - 1 : Nat)), (14, .int .i64 (qsz M : Nat)), (13, nv M x), (12, .pointer (some ⟨b1, 0, none⟩)), (11, .int .i64 (((qsz M) - 1) * 64 : Nat)), (10, .int .i64 ((qsz M) - 1 : Nat)), (9, .int .i64 (qsz M : Nat)), (8, .bool (decide ((qsz M) = 0))), (3, .int .i64 (qsz M : Nat)), (2, .int .i64 (0 : Nat)), (1, .pointer (some ⟨b1, 0, none⟩))] ((b1, .cells (#[nv M x] : Array Value) 49) :: O) (opAt Tryd.f26 4 7) (.pointer (some ⟨gOf (pOf x), (qsz M) - 1, none⟩)) ∧ RunV Tryd.prog [(16, .pointer (some ⟨gOf (pOf x), (qsz M) - 1, none⟩)), (15, .int .i64 ((qsz M) - 1 : Nat)), (14, .int .i64 (qsz M : Nat)), (13, nv M x), (12, .pointer (some ⟨b1, 0, none⟩)), (11, .int .i64 (((qsz M) - 1) * 64 : Nat)), (10, .int .i64 ((qsz M) - 1 : Nat)), (9, .int .i64 (qsz M : Nat)), (8, .bool (decide ((qsz M) = 0))), (3, .int .i64 (qsz M : Nat)), (2, .int .i64 (0 : Nat)), (1, .pointer (some ⟨b1, 0, none⟩))] ((b1, .cells (#[nv M x] : Array Value) 49) :: O) (opAt Tryd.f26 4 8) (.int .u64 (qd M ((qsz M) - 1) : Nat)) ∧ CallP Tryd.prog 38 [.int .u64 (qd M ((qsz M) - 1) : Nat)] [] (.int .i64 (bsz (qd M ((qsz M) - 1)) : Nat)) ∧ (((qsz M) - 1) * 64) + (bsz (qd M ((qsz M) - 1))) < 9223372036854775808 ∧ Value.int .i64 ((((qsz M) - 1) * 64) + (bsz (qd M ((qsz M) - 1))) : Nat) = .int .i64 (bsz M : Nat) ∧ Kt [(2, .int .i64 (bsz M : Nat)), (3, .int .i64 (qsz M : Nat)), (1, .pointer (some ⟨b1, 0, none⟩))] ((b1, .cells (#[nv M x] : Array Value) 49) :: O)) (by kernel_rfl) (fun _ => by kernel_rfl) (⟨(by omega), (by omega), (by omega), rfl, rfl, (by omega), (by omega), (rowAddr_ok (x := (.tmp 13)) (y := (.tmp 15)) (by kernel_rfl) rfl rfl Tryd.underlying47 (by kernel_rfl) (natO_cells hM) (by omega)), (rowLoad_ok (x := (.tmp 16)) (i := (qsz M) - 1) (by kernel_rfl) rfl Tryd.underlying71 rfl (natO_cells hM) (fun _ hx => List.mem_cons_of_mem _ (hx)) (by omega)), (callP_of en_len64 (len64_any (qd M ((qsz M) - 1)) (qd_lt _ _)) _), (by have := bsz64 (show qd M ((qsz M) - 1) < 18446744073709551616 from (qd_lt _ _)); omega), (vI (bits_top hs8)), fun ac5 wd5 FF5 MM5 => then_n ?_⟩))
    refine wp_ret ?_
    repeat first | refine then_ret ?_ | refine inb_ret ?_
    exact (ret_fr FF5 0 Tryd.results26 rfl ⟨rfl, MM5.belowN H (fun _ hx => List.mem_cons_of_mem _ (hx))⟩)
set_option maxRecDepth 100000 in
theorem ncmp_O (O : Blks) (hD : Distinct O) (M : Nat) (x : Value) (hM : NatO O (nv M x) M) (hs : qsz M < 1000000) (N : Nat) (y : Value) (hN : NatO O (nv N y) N) (w0 : World) (H : Has w0 O) :
    Calls Tryd.prog 28 #[.agg #[nv M x], .agg #[nv N y]] w0 fun e w' => e = .returned (.int .i64 (cmpN M N)) ∧ Below w0.heap.size w0 w' := by
  refine enter_fr Tryd.func28 rfl Tryd.ntmps28 (by simp) fun ac (FF : Fr 50 ac [(0, .agg (#[nv M x] : Array Value)), (1, .agg (#[nv N y] : Array Value))]) => ?_
  have MM : MemS (fun k => k < w0.heap.size ∧ ∀ x ∈ O, x.1 ≠ k) w0 w0 O [] := MemS.startN H hD
  refine wp_seq (rg_seq FF MM [o_, o_, o_] [2, 3, 4] (fun Kt => ∀ ba, ∀ bb, Kt [(4, .int .i64 (0 : Nat)), (3, .pointer (some ⟨bb, 0, none⟩)), (2, .pointer (some ⟨ba, 0, none⟩))] ((bb, .cells (#[nv N y] : Array Value) 49) :: (ba, .cells (#[nv M x] : Array Value) 49) :: O)) (by kernel_rfl) (fun _ => by kernel_rfl) (fun ba => fun bb => fun ac1 wd1 FF1 MM1 => then_n ?_))
  refine wp_seq ?_
  refine wp_seq (rg_seq FF1 MM1 [o_, l_ 1 (nv M x), o_, o_, l_ 0 (nv N y), o_, o_] [4, 3, 2, 12] (fun Kt => ba = ba ∧ (#[nv M x] : Array Value)[0]? = some (nv M x) ∧ bb = bb ∧ (#[nv N y] : Array Value)[0]? = some (nv N y) ∧ Kt [(12, .bool (decide ((qsz M) ≠ (qsz N)))), (4, .int .i64 (0 : Nat)), (3, .pointer (some ⟨bb, 0, none⟩)), (2, .pointer (some ⟨ba, 0, none⟩))] ((bb, .cells (#[nv N y] : Array Value) 49) :: (ba, .cells (#[nv M x] : Array Value) 49) :: O)) (by kernel_rfl) (fun _ => by kernel_rfl) (⟨rfl, rfl, rfl, rfl, fun ac2 wd2 FF2 MM2 => then_n ?_⟩))
  by_cases hs12 : (qsz M) ≠ (qsz N)
  · refine wp_cond_true ((FF2.ev 0 rfl).trans (dec_t hs12)) ?_
    refine wp_seq (rg_seq FF2 MM2 [o_, l_ 1 (nv M x), o_, o_, l_ 0 (nv N y), o_, t_ (.int .i64 (cmpN M N : Int)), o_] [4, 3, 2] (fun Kt => ba = ba ∧ (#[nv M x] : Array Value)[0]? = some (nv M x) ∧ bb = bb ∧ (#[nv N y] : Array Value)[0]? = some (nv N y) ∧ CallP Tryd.prog 41 [.int .i64 (qsz M : Nat), .int .i64 (qsz N : Nat)] [] (.int .i64 (cmpN M N : Int)) ∧ Kt [(4, .int .i64 (cmpN M N : Int)), (3, .pointer (some ⟨bb, 0, none⟩)), (2, .pointer (some ⟨ba, 0, none⟩))] ((bb, .cells (#[nv N y] : Array Value) 49) :: (ba, .cells (#[nv M x] : Array Value) 49) :: O)) (by kernel_rfl) (fun _ => by kernel_rfl) (⟨rfl, rfl, rfl, rfl, (callP_of en_cmpi (fun w => by have h0 := cmpi_any (qsz M) (qsz N) w; rw [cmp_sizes hs12] at h0; exact h0) _), fun ac3 wd3 FF3 MM3 => then_n ?_⟩))
    refine wp_ret ?_
    repeat first | refine then_ret ?_ | refine inb_ret ?_
    exact (ret_fr FF3 0 Tryd.results28 rfl ⟨rfl, MM3.belowN H (fun _ hx => List.mem_cons_of_mem _ (List.mem_cons_of_mem _ (hx)))⟩)
  · refine wp_cond_false ((FF2.ev 0 rfl).trans (dec_f hs12)) ?_
    have hq0 : qsz M = qsz N := by omega
    refine wp_skip ?_
    refine then_n ?_
    refine wp_seq ?_
    refine wp_seq (rg_seq FF2 MM2 [o_, l_ 1 (nv M x), o_, u_ 4 (.int .i64 (((qsz M : Nat) : Int) - 1 : Int)), o_] [4, 3, 2, 5] (fun Kt => ba = ba ∧ (#[nv M x] : Array Value)[0]? = some (nv M x) ∧ -(9223372036854775808 : Int) ≤ ((qsz M : Nat) : Int) - ((1 : Nat) : Int) ∧ ((qsz M : Nat) : Int) - ((1 : Nat) : Int) < (9223372036854775808 : Nat) ∧ Value.int .i64 (((qsz M : Nat) : Int) - ((1 : Nat) : Int) : Int) = .int .i64 (((qsz M : Nat) : Int) - 1 : Int) ∧ Kt [(5, .int .i64 (((qsz M : Nat) : Int) - 1 : Int)), (4, .int .i64 (0 : Nat)), (3, .pointer (some ⟨bb, 0, none⟩)), (2, .pointer (some ⟨ba, 0, none⟩))] ((bb, .cells (#[nv N y] : Array Value) 49) :: (ba, .cells (#[nv M x] : Array Value) 49) :: O)) (by kernel_rfl) (fun _ => by kernel_rfl) (⟨rfl, rfl, (by omega), (by omega), (vZ (by omega)), fun ac4 wd4 FF4 MM4 => then_n ?_⟩))
    refine wp_for2 (fun a' w' => ∃ j : Nat, j ≤ qsz M ∧ M / 18446744073709551616 ^ j = N / 18446744073709551616 ^ j ∧ Fr 50 a' [(5, .int .i64 (((j : Nat) : Int) - 1 : Int)), (3, .pointer (some ⟨bb, 0, none⟩)), (2, .pointer (some ⟨ba, 0, none⟩))] ∧ MemS (fun k => k < w0.heap.size ∧ ∀ x ∈ O, x.1 ≠ k) w0 w' ((bb, .cells (#[nv N y] : Array Value) 49) :: (ba, .cells (#[nv M x] : Array Value) 49) :: O) []) (fun a' _ => (cnt 5 a' + 1).toNat) ⟨qsz M, Nat.le_refl _, qcmp_top hq0, FF4.pick [0, 2, 3], MM4⟩ ?_
    rintro ac5 wd5 ⟨j, hj, hq, FF5, MM5⟩
    have hc := cnt_of (FF5.get 0 rfl)
    refine rg_seq FF5 MM5 [o_, w_ 4] [5, 3, 2, 25] (fun Kt => Kt [(25, .bool (decide ((((j : Nat) : Int) - 1) ≥ ((0 : Nat) : Int)))), (5, .int .i64 (((j : Nat) : Int) - 1 : Int)), (3, .pointer (some ⟨bb, 0, none⟩)), (2, .pointer (some ⟨ba, 0, none⟩))] ((bb, .cells (#[nv N y] : Array Value) 49) :: (ba, .cells (#[nv M x] : Array Value) 49) :: O)) (by kernel_rfl) (fun _ => by kernel_rfl) (fun ac6 wd6 FF6 MM6 => ?_)
    by_cases hlt : (((j : Nat) : Int) - 1) ≥ ((0 : Nat) : Int)
    · skip
      refine then_n (.inl ⟨(FF6.ev 0 rfl).trans (dec_t hlt), ?_⟩)
      obtain ⟨j, rfl⟩ : ∃ z, j = z + 1 := ⟨j - 1, by omega⟩
      refine wp_seq (rg_draw FF6 MM6 [.inl (.pointer (some ⟨ba, 0, none⟩)), .inl (nv M x), .inl (.int .i64 (j : Nat)), .inl (.pointer (some ⟨gOf (pOf x), j, none⟩)), .inl (.int .u64 (qd M j : Nat)), .inl (.pointer (some ⟨bb, 0, none⟩)), .inl (nv N y), .inl (.int .i64 (j : Nat)), .inl (.pointer (some ⟨gOf (pOf y), j, none⟩)), .inl (.int .u64 (qd N j : Nat)), .inl (.bool (decide ((qd M j) ≠ (qd N j))))] [] [o_, l_ 1 (nv M x), t_ (.int .i64 (j : Nat)), f_ (.pointer (some ⟨gOf (pOf x), j, none⟩)), f_ (.int .u64 (qd M j : Nat)), o_, l_ 0 (nv N y), t_ (.int .i64 (j : Nat)), f_ (.pointer (some ⟨gOf (pOf y), j, none⟩)), f_ (.int .u64 (qd N j : Nat)), o_] [] [5, 3, 2, 38] (fun nb => [ba = ba, (#[nv M x] : Array Value)[0]? = some (nv M x), Value.int .i64 ((((j + 1) : Nat) : Int) - 1 : Int) = .int .i64 (j : Nat), RunV Tryd.prog [(29, nv M x), (30, .int .i64 (j : Nat)), (25, .bool (decide (((((j + 1) : Nat) : Int) - 1) ≥ ((0 : Nat) : Int)))), (5, .int .i64 ((((j + 1) : Nat) : Int) - 1 : Int)), (3, .pointer (some ⟨bb, 0, none⟩)), (2, .pointer (some ⟨ba, 0, none⟩))] ((bb, .cells (#[nv N y] : Array Value) 49) :: (ba, .cells (#[nv M x] : Array Value) 49) :: O) (opAt Tryd.f28 6 3) (.pointer (some ⟨gOf (pOf x), j, none⟩)), RunV Tryd.prog [(31, .pointer (some ⟨gOf (pOf x), j, none⟩)), (25, .bool (decide (((((j + 1) : Nat) : Int) - 1) ≥ ((0 : Nat) : Int)))), (5, .int .i64 ((((j + 1) : Nat) : Int) - 1 : Int)), (3, .pointer (some ⟨bb, 0, none⟩)), (2, .pointer (some ⟨ba, 0, none⟩))] ((bb, .cells (#[nv N y] : Array Value) 49) :: (ba, .cells (#[nv M x] : Array Value) 49) :: O) (opAt Tryd.f28 6 4) (.int .u64 (qd M j : Nat)), bb = bb, (#[nv N y] : Array Value)[0]? = some (nv N y), Value.int .i64 ((((j + 1) : Nat) : Int) - 1 : Int) = .int .i64 (j : Nat), RunV Tryd.prog [(34, nv N y), (35, .int .i64 (j : Nat)), (25, .bool (decide (((((j + 1) : Nat) : Int) - 1) ≥ ((0 : Nat) : Int)))), (5, .int .i64 ((((j + 1) : Nat) : Int) - 1 : Int)), (3, .pointer (some ⟨bb, 0, none⟩)), (2, .pointer (some ⟨ba, 0, none⟩))] ((bb, .cells (#[nv N y] : Array Value) 49) :: (ba, .cells (#[nv M x] : Array Value) 49) :: O) (opAt Tryd.f28 6 8) (.pointer (some ⟨gOf (pOf y), j, none⟩)), RunV Tryd.prog [(36, .pointer (some ⟨gOf (pOf y), j, none⟩)), (25, .bool (decide (((((j + 1) : Nat) : Int) - 1) ≥ ((0 : Nat) : Int)))), (5, .int .i64 ((((j + 1) : Nat) : Int) - 1 : Int)), (3, .pointer (some ⟨bb, 0, none⟩)), (2, .pointer (some ⟨ba, 0, none⟩))] ((bb, .cells (#[nv N y] : Array Value) 49) :: (ba, .cells (#[nv M x] : Array Value) 49) :: O) (opAt Tryd.f28 6 9) (.int .u64 (qd N j : Nat))]) (fun nb Kt => Kt [(38, .bool (decide ((qd M j) ≠ (qd N j)))), (5, .int .i64 ((((j + 1) : Nat) : Int) - 1 : Int)), (3, .pointer (some ⟨bb, 0, none⟩)), (2, .pointer (some ⟨ba, 0, none⟩))] ((bb, .cells (#[nv N y] : Array Value) 49) :: (ba, .cells (#[nv M x] : Array Value) 49) :: O)) (by kernel_rfl) (by kernel_rfl) (by kernel_rfl) (fun _ => by kernel_rfl) (fun _ _ => by kernel_rfl) trivial (fun nb => ⟨rfl, rfl, (vZ (by omega)), (rowAddr_ok (x := (.tmp 29)) (y := (.tmp 30)) (by kernel_rfl) rfl rfl Tryd.underlying47 (by kernel_rfl) (natO_cells hM) (by omega)), (rowLoad_ok (x := (.tmp 31)) (i := j) (by kernel_rfl) rfl Tryd.underlying71 rfl (natO_cells hM) (fun _ hx => List.mem_cons_of_mem _ (List.mem_cons_of_mem _ (hx))) (by omega)), rfl, rfl, (vZ (by omega)), (rowAddr_ok (x := (.tmp 34)) (y := (.tmp 35)) (by kernel_rfl) rfl rfl Tryd.underlying47 (by kernel_rfl) (natO_cells hN) (by omega)), (rowLoad_ok (x := (.tmp 36)) (i := j) (by kernel_rfl) rfl Tryd.underlying71 rfl (natO_cells hN) (fun _ hx => List.mem_cons_of_mem _ (List.mem_cons_of_mem _ (hx))) (by omega)), trivial⟩) (fun nb => fun ac7 wd7 FF7 MM7 => then_n ?_))
      by_cases hs38 : (qd M j) ≠ (qd N j)
      · refine wp_cond_true ((FF7.ev 0 rfl).trans (dec_t hs38)) ?_
        refine wp_seq (rg_draw FF7 MM7 [.inl (.pointer (some ⟨ba, 0, none⟩)), .inl (nv M x), .inl (.int .i64 (j : Nat)), .inl (.pointer (some ⟨gOf (pOf x), j, none⟩)), .inl (.int .u64 (qd M j : Nat)), .inl (.pointer (some ⟨bb, 0, none⟩)), .inl (nv N y), .inl (.int .i64 (j : Nat)), .inl (.pointer (some ⟨gOf (pOf y), j, none⟩)), .inl (.int .u64 (qd N j : Nat)), .inl (.int .i64 (cmpN M N : Int)), .inl (.int .i64 (cmpN M N : Int))] [] [o_, l_ 1 (nv M x), t_ (.int .i64 (j : Nat)), f_ (.pointer (some ⟨gOf (pOf x), j, none⟩)), f_ (.int .u64 (qd M j : Nat)), o_, l_ 0 (nv N y), t_ (.int .i64 (j : Nat)), f_ (.pointer (some ⟨gOf (pOf y), j, none⟩)), f_ (.int .u64 (qd N j : Nat)), t_ (.int .i64 (cmpN M N : Int)), o_] [] [5, 3, 2, 4] (fun nb => [ba = ba, (#[nv M x] : Array Value)[0]? = some (nv M x), Value.int .i64 ((((j + 1) : Nat) : Int) - 1 : Int) = .int .i64 (j : Nat), RunV Tryd.prog [(40, nv M x), (41, .int .i64 (j : Nat)), (38, .bool (decide ((qd M j) ≠ (qd N j)))), (5, .int .i64 ((((j + 1) : Nat) : Int) - 1 : Int)), (3, .pointer (some ⟨bb, 0, none⟩)), (2, .pointer (some ⟨ba, 0, none⟩))] ((bb, .cells (#[nv N y] : Array Value) 49) :: (ba, .cells (#[nv M x] : Array Value) 49) :: O) (opAt Tryd.f28 7 3) (.pointer (some ⟨gOf (pOf x), j, none⟩)), RunV Tryd.prog [(42, .pointer (some ⟨gOf (pOf x), j, none⟩)), (38, .bool (decide ((qd M j) ≠ (qd N j)))), (5, .int .i64 ((((j + 1) : Nat) : Int) - 1 : Int)), (3, .pointer (some ⟨bb, 0, none⟩)), (2, .pointer (some ⟨ba, 0, none⟩))] ((bb, .cells (#[nv N y] : Array Value) 49) :: (ba, .cells (#[nv M x] : Array Value) 49) :: O) (opAt Tryd.f28 7 4) (.int .u64 (qd M j : Nat)), bb = bb, (#[nv N y] : Array Value)[0]? = some (nv N y), Value.int .i64 ((((j + 1) : Nat) : Int) - 1 : Int) = .int .i64 (j : Nat), RunV Tryd.prog [(45, nv N y), (46, .int .i64 (j : Nat)), (38, .bool (decide ((qd M j) ≠ (qd N j)))), (5, .int .i64 ((((j + 1) : Nat) : Int) - 1 : Int)), (3, .pointer (some ⟨bb, 0, none⟩)), (2, .pointer (some ⟨ba, 0, none⟩))] ((bb, .cells (#[nv N y] : Array Value) 49) :: (ba, .cells (#[nv M x] : Array Value) 49) :: O) (opAt Tryd.f28 7 8) (.pointer (some ⟨gOf (pOf y), j, none⟩)), RunV Tryd.prog [(47, .pointer (some ⟨gOf (pOf y), j, none⟩)), (38, .bool (decide ((qd M j) ≠ (qd N j)))), (5, .int .i64 ((((j + 1) : Nat) : Int) - 1 : Int)), (3, .pointer (some ⟨bb, 0, none⟩)), (2, .pointer (some ⟨ba, 0, none⟩))] ((bb, .cells (#[nv N y] : Array Value) 49) :: (ba, .cells (#[nv M x] : Array Value) 49) :: O) (opAt Tryd.f28 7 9) (.int .u64 (qd N j : Nat)), CallP Tryd.prog 42 [.int .u64 (qd M j : Nat), .int .u64 (qd N j : Nat)] [] (.int .i64 (cmpN M N : Int))]) (fun nb Kt => Kt [(4, .int .i64 (cmpN M N : Int)), (5, .int .i64 ((((j + 1) : Nat) : Int) - 1 : Int)), (3, .pointer (some ⟨bb, 0, none⟩)), (2, .pointer (some ⟨ba, 0, none⟩))] ((bb, .cells (#[nv N y] : Array Value) 49) :: (ba, .cells (#[nv M x] : Array Value) 49) :: O)) (by kernel_rfl) (by kernel_rfl) (by kernel_rfl) (fun _ => by kernel_rfl) (fun _ _ => by kernel_rfl) trivial (fun nb => ⟨rfl, rfl, (vZ (by omega)), (rowAddr_ok (x := (.tmp 40)) (y := (.tmp 41)) (by kernel_rfl) rfl rfl Tryd.underlying47 (by kernel_rfl) (natO_cells hM) (by omega)), (rowLoad_ok (x := (.tmp 42)) (i := j) (by kernel_rfl) rfl Tryd.underlying71 rfl (natO_cells hM) (fun _ hx => List.mem_cons_of_mem _ (List.mem_cons_of_mem _ (hx))) (by omega)), rfl, rfl, (vZ (by omega)), (rowAddr_ok (x := (.tmp 45)) (y := (.tmp 46)) (by kernel_rfl) rfl rfl Tryd.underlying47 (by kernel_rfl) (natO_cells hN) (by omega)), (rowLoad_ok (x := (.tmp 47)) (i := j) (by kernel_rfl) rfl Tryd.underlying71 rfl (natO_cells hN) (fun _ hx => List.mem_cons_of_mem _ (List.mem_cons_of_mem _ (hx))) (by omega)), (callP_of en_cmpu (fun w => by have h0 := cmpu_any (qd M j) (qd N j) w; rw [cmp_word hq hs38] at h0; exact h0) _), trivial⟩) (fun nb => fun ac8 wd8 FF8 MM8 => then_n ?_))
        refine wp_ret ?_
        repeat first | refine then_ret ?_ | refine inb_ret ?_
        exact (ret_fr FF8 0 Tryd.results28 rfl ⟨rfl, MM8.belowN H (fun _ hx => List.mem_cons_of_mem _ (List.mem_cons_of_mem _ (hx)))⟩)
      · refine wp_cond_false ((FF7.ev 0 rfl).trans (dec_f hs38)) ?_
        have hq2 := qcmp_eq hq (Classical.byContradiction fun h => hs38 h)
        refine wp_skip ?_
        refine inb_n (then_n ?_)
        refine rg_seq FF7 MM7 [o_, u_ 4 (.int .i64 (((j : Nat) : Int) - 1 : Int)), o_] [5, 3, 2] (fun Kt => -(9223372036854775808 : Int) ≤ ((((j + 1) : Nat) : Int) - 1) - ((1 : Nat) : Int) ∧ ((((j + 1) : Nat) : Int) - 1) - ((1 : Nat) : Int) < (9223372036854775808 : Nat) ∧ Value.int .i64 (((((j + 1) : Nat) : Int) - 1) - ((1 : Nat) : Int) : Int) = .int .i64 (((j : Nat) : Int) - 1 : Int) ∧ Kt [(5, .int .i64 (((j : Nat) : Int) - 1 : Int)), (3, .pointer (some ⟨bb, 0, none⟩)), (2, .pointer (some ⟨ba, 0, none⟩))] ((bb, .cells (#[nv N y] : Array Value) 49) :: (ba, .cells (#[nv M x] : Array Value) 49) :: O)) (by kernel_rfl) (fun _ => by kernel_rfl) (⟨(by omega), (by omega), (vZ (by omega)), fun ac9 wd9 FF9 MM9 => ?_⟩)
        have hd := cnt_of (FF9.get 0 rfl)
        refine then_n ⟨⟨j, by omega, hq2, FF9.pick [0, 1, 2], MM9⟩, ?_⟩
        rw [hc, hd]; omega
    · skip
      refine then_n (.inr ⟨(FF6.ev 0 rfl).trans (dec_f hlt), ?_⟩)
      obtain rfl : j = 0 := by omega
      have hMN : M = N := by simpa using hq
      refine then_n ?_
      refine wp_seq (rg_seq FF6 MM6 [t_ (.int .i64 (cmpN M N : Int))] [5, 3, 2, 4] (fun Kt => Value.int .i64 (0 : Nat) = .int .i64 (cmpN M N : Int) ∧ Kt [(4, .int .i64 (cmpN M N : Int)), (5, .int .i64 (((0 : Nat) : Int) - 1 : Int)), (3, .pointer (some ⟨bb, 0, none⟩)), (2, .pointer (some ⟨ba, 0, none⟩))] ((bb, .cells (#[nv N y] : Array Value) 49) :: (ba, .cells (#[nv M x] : Array Value) 49) :: O)) (by kernel_rfl) (fun _ => by kernel_rfl) (⟨(vZ (cmp0 hMN)), fun ac10 wd10 FF10 MM10 => then_n ?_⟩))
      refine wp_ret ?_
      repeat first | refine then_ret ?_ | refine inb_ret ?_
      exact (ret_fr FF10 0 Tryd.results28 rfl ⟨rfl, MM10.belowN H (fun _ hx => List.mem_cons_of_mem _ (List.mem_cons_of_mem _ (hx)))⟩)
theorem nat1_O {w : World} {M : Nat} {x : Value} (h : NatIn w (nv M x) M) : ∃ O : Blks, Has w O ∧ Distinct O ∧ NatO O (nv M x) M := by
  obtain ⟨O, h1, h2, h3, _⟩ := nats_O [(nv M x, M)] (fun y hy => by rw [List.mem_singleton] at hy; subst hy; exact h) [] (fun i y hy => by simp at hy) .nil
  exact ⟨O, h1, distinct_of h2, h3.get 0 rfl⟩
theorem nat2_O {w : World} {M N : Nat} {x y : Value} (h : NatIn w (nv M x) M) (h' : NatIn w (nv N y) N) : ∃ O : Blks, Has w O ∧ Distinct O ∧ NatO O (nv M x) M ∧ NatO O (nv N y) N := by
  obtain ⟨O, h1, h2, h3, _⟩ := nats_O [(nv M x, M), (nv N y, N)] (fun z hz => by
    simp only [List.mem_cons, List.not_mem_nil, or_false] at hz
    rcases hz with rfl | rfl <;> assumption) [] (fun i y hy => by simp at hy) .nil
  exact ⟨O, h1, distinct_of h2, h3.get 0 rfl, h3.get 1 rfl⟩
theorem nbits_any (M : Nat) (x : Value) (hs : qsz M < 1000000) (w : World) (hM : NatIn w (nv M x) M) : Calls Tryd.prog 26 #[.agg #[nv M x]] w fun e w' => e = .returned (.int .i64 (bsz M : Nat)) ∧ Below w.heap.size w w' := by
  obtain ⟨O, h1, h2, h3⟩ := nat1_O hM
  exact nbits_O O h2 M x h3 hs w h1
theorem ncmp_any (M : Nat) (x : Value) (hs : qsz M < 1000000) (N : Nat) (y : Value) (w : World) (hM : NatIn w (nv M x) M) (hN : NatIn w (nv N y) N) : Calls Tryd.prog 28 #[.agg #[nv M x], .agg #[nv N y]] w fun e w' => e = .returned (.int .i64 (cmpN M N)) ∧ Below w.heap.size w w' := by
  obtain ⟨O, h1, h2, h3, h4⟩ := nat2_O hM hN
  exact ncmp_O O h2 M x h3 hs N y h4 w h1

end Go.Proofs.YtdeiodcfblldgaaDoor
namespace Go.Proofs.YtdeiodcfblldgaaDoor
open Go.RowKit
section
variable {P : Program} {o : Oper} {w0 w w' : World} {n : Nat} {l : Slots} {L O : Blks} {S : Nat → Prop} {R : List Row}
theorem add64_ok {f : FuncId} {fn : Func} {ts : Array TypeId} {x y z : Operand} {a b c : Nat} (hc : c ≤ 1) (ho : o.op = .call ⟨.value (.func f), #[x, y, z], ts⟩) (hx : evO l x = some (.int .u64 (a : Nat))) (hy : evO l y = some (.int .u64 (b : Nat))) (hz : evO l z = some (.int .u64 (c : Nat))) (hf : P.funcs[f]? = some fn) (hname : (fn.name == "runtime.NumGoroutine") = false) (hb : fn.body.isNone = true) (hn : Extern.findNext fn = none)
    (he : Extern.find fn = some add64Entry) : RunV P l L o (.tuple #[.int .u64 ((a + b + c) % 18446744073709551616 : Nat), .int .u64 ((a + b + c) / 18446744073709551616 : Nat)]) := fun ρ w A _ => by
  have h1 : ρ x = .int .u64 (a : Int) := A x _ hx
  have h2 : ρ y = .int .u64 (b : Int) := A y _ hy
  have h5 : ρ z = .int .u64 (c : Int) := A z _ hz
  have h3 : ρ (.func f) = .func (.func f) #[] #[] := A (.func f) _ rfl
  have h4 : (callFunc f #[.int .u64 (a : Int), .int .u64 (b : Int), .int .u64 (c : Int)]).run P w = .ok (.value (.tuple #[.int .u64 ((a + b + c) % 18446744073709551616 : Nat), .int .u64 ((a + b + c) / 18446744073709551616 : Nat)])) w := by
    rw [run_callFunc_extern hf hname hb hn he, run_add64 a b c (by omega) (by omega) (by omega) (by omega)]
    simp only [Result.andThen]
    congr 5 <;> omega
  simp [execOp, ho, resolve, h1, h2, h5, h3, Deferred.ofValue, invoke, h4]
def borI (a b c : Nat) : Nat := if a < b + c then 1 else 0
theorem sub64_ok {f : FuncId} {fn : Func} {ts : Array TypeId} {x y z : Operand} {a b c : Nat} (hc : c ≤ 1) (ho : o.op = .call ⟨.value (.func f), #[x, y, z], ts⟩) (hx : evO l x = some (.int .u64 (a : Nat))) (hy : evO l y = some (.int .u64 (b : Nat))) (hz : evO l z = some (.int .u64 (c : Nat))) (hf : P.funcs[f]? = some fn) (hname : (fn.name == "runtime.NumGoroutine") = false) (hb : fn.body.isNone = true) (hn : Extern.findNext fn = none)
    (he : Extern.find fn = some sub64Entry) : RunV P l L o (.tuple #[.int .u64 ((a + 18446744073709551616 - b - c) % 18446744073709551616 : Nat), .int .u64 (borI a b c : Nat)]) := fun ρ w A _ => by
  have h1 : ρ x = .int .u64 (a : Int) := A x _ hx
  have h2 : ρ y = .int .u64 (b : Int) := A y _ hy
  have h5 : ρ z = .int .u64 (c : Int) := A z _ hz
  have h3 : ρ (.func f) = .func (.func f) #[] #[] := A (.func f) _ rfl
  have h4 : (callFunc f #[.int .u64 (a : Int), .int .u64 (b : Int), .int .u64 (c : Int)]).run P w = .ok (.value (.tuple #[.int .u64 ((a + 18446744073709551616 - b - c) % 18446744073709551616 : Nat), .int .u64 (borI a b c : Nat)])) w := by
    rw [run_callFunc_extern hf hname hb hn he, run_sub64 a b c hc]
    rfl
  simp [execOp, ho, resolve, h1, h2, h5, h3, Deferred.ofValue, invoke, h4]
/-- Words as cells. -/
def wc (X : List Nat) : List Value := X.map fun x => .int .u64 (x : Nat)
theorem wc_len (X : List Nat) : (wc X).length = X.length * 1 := by simp [wc]
theorem wc_cn (X : List Nat) : (cn .u64 X).toList = wc X := by simp [cn, wc]
theorem wc_app (X Y : List Nat) : wc X ++ wc Y = wc (X ++ Y) := by simp [wc]
theorem wc_one (X : List Nat) : ∀ u ∈ wc X, u.oneCell' = true := fun u hu => by
  obtain ⟨x, _, rfl⟩ := List.mem_map.1 hu
  rfl
theorem wc_rep (k : Nat) : List.replicate k (Value.int .u64 0) = wc (List.replicate k 0) := by simp [wc]
theorem wc_inj {X Y : List Nat} (h : wc X = wc Y) : X = Y := by
  induction X generalizing Y with
  | nil => cases Y with
    | nil => rfl
    | cons => simp [wc] at h
  | cons x r ih => cases Y with
    | nil => simp [wc] at h
    | cons y s =>
      simp only [wc, List.map_cons, List.cons.injEq, Value.int.injEq, true_and] at h
      rw [ih h.2]
      congr 1
      omega
theorem lies_cn64 {b : Nat} {X : List Nat} {T : TypeId} {fr : Nat × Nat} (h : w.heap[b]? = some (.cells (cn .u64 X) T fr)) : ∀ (j : Nat) u, (wc X)[j]? = some u → w.cell? ((⟨b, 0, none⟩ : Addr).add j) = some u := fun j u hu => by
  rw [add_off, cell_of h, ← hu, ← wc_cn]; simp
theorem lies_O {p : Option Addr} {X : List Nat} (h : CellsIn w p X.length (fun j => .int .u64 (X.getD j 0 : Nat))) {ad : Addr} (hp : p = some ad) : ∀ (j : Nat) u, (wc X)[j]? = some u → w.cell? (ad.add j) = some u := fun j u hu => by
  have hj : j < X.length := by
    rcases Nat.lt_or_ge j X.length with h | h
    · exact h
    · rw [List.getElem?_eq_none (by rw [wc_len]; omega)] at hu; cases hu
  rcases h with h | ⟨b, cs, T, fr, h1, h2, h3⟩
  · omega
  · rw [hp] at h1
    obtain rfl := Option.some.inj h1
    rw [add_off, cell_of h2, Nat.zero_add, h3 j hj, ← hu]
    simp [wc, hj]
/-- A row of words as a block. -/
theorem MemS.freezeW {g m cap : Nat} {e : TypeId} {X : List Nat} (M : MemS S w0 w L ((.slice (some ⟨g, 0, none⟩) m cap, e, 1, m, wc X) :: R)) : ∃ rest : Array Value, MemS S w0 w ((g, .cells (cn .u64 X ++ rest) e) :: L) R ∧ w0.heap.size ≤ g ∧ m ≤ cap ∧ cap ≤ maxLen ∧ (cn .u64 X ++ rest).size = cap ∧ X.length = m := by
  obtain ⟨cur, h1, h2, h3, h4, h5, h6, h7⟩ := M.freeze
  have e1 : cur = cn .u64 X ++ (cur.toList.drop m).toArray := by
    apply Array.ext'
    rw [Array.toList_append, wc_cn]
    conv => lhs; rw [← List.take_append_drop m cur.toList]
    rw [Nat.mul_one] at h6
    rw [h6]
  refine ⟨(cur.toList.drop m).toArray, ?_, h2, h3, h4, ?_, ?_⟩
  · rw [← e1]; exact h1
  · rw [← e1, h5, Nat.mul_one]
  · rw [wc_len] at h7; omega
theorem MemS.thawW {g m cap : Nat} {e : TypeId} {X : List Nat} {rest : Array Value} (M : MemS S w0 w ((g, .cells (cn .u64 X ++ rest) e) :: L) R) (hg : w0.heap.size ≤ g) (hX : X.length = m) (hm : m ≤ cap) (hc : cap ≤ maxLen) (hs : (cn .u64 X ++ rest).size = cap) : MemS S w0 w L ((.slice (some ⟨g, 0, none⟩) m cap, e, 1, m, wc X) :: R) := by
  refine M.thaw hg hm hc (by rw [hs, Nat.mul_one]) (by rw [wc_len, hX]) ?_
  rw [Nat.mul_one, Array.toList_append, wc_cn, ← hX, show X.length = (wc X).length by simp [wc], List.take_left]
theorem MemS.rowSome {q : Option Addr} {m c k : Nat} {e : TypeId} {X : List Value} (M : MemS S w0 w L ((.slice q m c, e, k, m, X) :: R)) (h : 0 < m) : ∃ g, q = some ⟨g, 0, none⟩ := by
  rcases M.rowForm with ⟨_, h2⟩ | ⟨g, cap, h1⟩
  · omega
  · simp only [Value.slice.injEq] at h1
    exact ⟨g, h1.1⟩
/-- One block turns. -/
structure Turn (g : Nat) (ob : Obj) (w w' : World) : Prop where
  os : w'.os = w.os
  tape : w'.tape = w.tape
  output : w'.output = w.output
  size : w.heap.size ≤ w'.heap.size
  block : ∀ k, k < w.heap.size → k ≠ g → w'.heap[k]? = w.heap[k]?
  now : w'.heap[g]? = some ob
theorem MemS.turn {g : Nat} {ob ob' : Obj} (M : MemS (fun k => k < w0.heap.size ∧ ∀ x ∈ (g, ob) :: O, x.1 ≠ k) w0 w L R) (H : Has w0 O) (i : Nat) (hi : L[i]? = some (g, ob')) (hO : ∀ x ∈ O, x ∈ L) : Turn g ob' w0 w := by
  refine ⟨M.os, M.tape, M.output, M.size, fun k hk hne => ?_, M.get i hi⟩
  by_cases h : ∃ x ∈ O, x.1 = k
  · obtain ⟨x, hx, rfl⟩ := h
    rw [Has.mem M.hasL (hO x hx), Has.mem H hx]
  · exact M.block k ⟨hk, fun x hx e => by
      rcases List.mem_cons.1 hx with rfl | hx
      · exact hne e.symm
      · exact h ⟨x, hx, e⟩⟩
theorem MemS.turned {g : Nat} {ob ob' : Obj} (M : MemS S w0 w ((g, ob) :: L) R) (t : Turn g ob' w w') : MemS S w0 w' ((g, ob') :: L) R := by
  have p : Post w w' ((g, ob) :: L) ⟨fun _ => undef, none, [(0, ob')]⟩ 0 := ⟨t.os, t.tape, t.output, t.size, fun k hk hn => t.block k hk (fun e => hn _ (List.mem_singleton.2 rfl) (g, ob) rfl e.symm), fun _ h => (nomatch h), fun _ => rfl, fun u hu y hy => by
    rw [List.mem_singleton] at hu
    subst hu
    obtain rfl := Option.some.inj hy
    exact t.now⟩
  have := M.post p
  simpa [newL, setAll, modAt] using this
end
end Go.Proofs.YtdeiodcfblldgaaDoor
namespace Go.Proofs.YtdeiodcfblldgaaDoor
open Go.RowKit

/-- A row of a number's words, in memory of its own. -/
def CloneOf (base : Nat) (w : World) (M : Nat) (v : Value) : Prop := (M = 0 ∧ pOf v = none ∧ cOf v = 0) ∨ (M ≠ 0 ∧ ∃ (g : Nat) (rest : Array Value), pOf v = some ⟨g, 0, none⟩ ∧ base ≤ g ∧ w.heap[g]? = some (.cells (cn .u64 (qminB M) ++ rest) 71) ∧ (cn .u64 (qminB M) ++ rest).size = cOf v ∧ cOf v ≤ maxLen)
theorem clone_st (base M : Nat) : ∀ v w w', CloneOf base w M v → Below w.heap.size w w' → CloneOf base w' M v := fun v w w' h hb => by
  rcases h with h | ⟨h0, g, rest, h1, h2, h3, h4⟩
  · exact .inl h
  · exact .inr ⟨h0, g, rest, h1, h2, (hb.block g (lt_of_block h3)).trans h3, h4⟩
theorem CloneOf.mono {base base' : Nat} {w : World} {M : Nat} {v : Value} (h : CloneOf base w M v) (hb : base' ≤ base) : CloneOf base' w M v := by
  rcases h with h | ⟨h0, g, rest, h1, h2, h3⟩
  · exact .inl h
  · exact .inr ⟨h0, g, rest, h1, Nat.le_trans hb h2, h3⟩
theorem natO_some {O : Blks} {N : Nat} {x : Value} (h : NatO O (nv N x) N) (h0 : N ≠ 0) : ∃ ad, pOf x = some ad := by
  have := natO_none h
  rw [decide_eq_false h0] at this
  cases hp : pOf x with
  | none => rw [hp] at this; cases this
  | some ad => exact ⟨ad, rfl⟩
theorem cells_qmin {w : World} {p : Option Addr} {M : Nat} (h : CellsIn w p (qsz M) (fun j => .int .u64 (qd M j : Nat))) : CellsIn w p (qsz M) (fun j => .int .u64 ((qminB M).getD j 0 : Nat)) := by
  rcases h with h | ⟨b, cs, T, fr, h1, h2, h3⟩
  · exact .inl h
  · exact .inr ⟨b, cs, T, fr, h1, h2, fun j hj => by rw [h3 j hj]; show some (Value.int .u64 (qd M j : Nat)) = some (Value.int .u64 ((qminB M).getD j 0 : Nat)); rw [qminB_get]; rfl⟩
set_option maxRecDepth 100000 in
theorem clone_zero (O : Blks) (hD : Distinct O) (M : Nat) (x : Value) (hM : NatO O (nv M x) M) (h0 : M = 0) (w0 : World) (H : Has w0 O) :
    Calls Tryd.prog 40 #[nv M x] w0 fun e w' => ∃ v, e = .returned (nv M v) ∧ Below w0.heap.size w0 w' ∧ CloneOf w0.heap.size w' M v := by
  refine enter_fr Tryd.func40 rfl Tryd.ntmps40 (by simp) fun ac (FF : Fr 8 ac [(0, nv M x)]) => ?_
  have MM : MemS (fun k => k < w0.heap.size ∧ ∀ x ∈ O, x.1 ≠ k) w0 w0 O [] := MemS.startN H hD
  refine wp_seq (rg_seq FF MM [o_] [0, 2] (fun Kt => Kt [(2, .slice none 0 0), (0, nv M x)] O) (by kernel_rfl) (fun _ => by kernel_rfl) (fun ac1 wd1 FF1 MM1 => then_n ?_))
  refine wp_seq ?_
  refine wp_seq (rg_seq FF1 MM1 [o_, f_ (.bool true)] [2, 0, 4] (fun Kt => RunV Tryd.prog [(3, nv M x), (2, .slice none 0 0), (0, nv M x)] O (opAt Tryd.f40 1 1) (.bool true) ∧ Kt [(4, .bool true), (2, .slice none 0 0), (0, nv M x)] O) (by kernel_rfl) (fun _ => by kernel_rfl) (⟨(rowNil_ok (x := .tmp 3) (t' := 47) (n := qsz M) (p := pOf x) (c := cOf x) (by kernel_rfl) rfl Tryd.underlying47 (by rw [natO_none hM]; exact decide_eq_true h0)), fun ac2 wd2 FF2 MM2 => then_n ?_⟩))
  refine wp_cond_true (FF2.ev 0 rfl) ?_
  refine wp_seq (rg_seq FF2 MM2 [o_] [2, 0] (fun Kt => Kt [(2, .slice none 0 0), (0, nv M x)] O) (by kernel_rfl) (fun _ => by kernel_rfl) (fun ac3 wd3 FF3 MM3 => then_n ?_))
  refine wp_ret ?_
  repeat first | refine then_ret ?_ | refine inb_ret ?_
  exact (ret_fr FF3 0 Tryd.results40 rfl ⟨.slice none 0 0, congrArg Ending.returned (by rw [h0]; rfl), MM3.belowN H (fun _ hx => hx), .inl ⟨h0, rfl, rfl⟩⟩)
set_option maxRecDepth 100000 in
theorem clone_some (O : Blks) (hD : Distinct O) (M : Nat) (x : Value) (hM : NatO O (nv M x) M) (hs : qsz M < 1000000) (h0 : M ≠ 0) (w0 : World) (H : Has w0 O) :
    Calls Tryd.prog 40 #[nv M x] w0 fun e w' => ∃ v, e = .returned (nv M v) ∧ Below w0.heap.size w0 w' ∧ CloneOf w0.heap.size w' M v := by
  refine enter_fr Tryd.func40 rfl Tryd.ntmps40 (by simp) fun ac (FF : Fr 8 ac [(0, nv M x)]) => ?_
  have MM : MemS (fun k => k < w0.heap.size ∧ ∀ x ∈ O, x.1 ≠ k) w0 w0 O [] := MemS.startN H hD
  obtain ⟨ad, had⟩ := natO_some hM h0
  refine wp_seq (rg_seq FF MM [o_] [0, 2] (fun Kt => Kt [(2, .slice none 0 0), (0, nv M x)] O) (by kernel_rfl) (fun _ => by kernel_rfl) (fun ac1 wd1 FF1 MM1 => then_n ?_))
  refine wp_seq ?_
  refine wp_seq (rg_seq FF1 MM1 [o_, f_ (.bool false)] [2, 0, 4] (fun Kt => RunV Tryd.prog [(3, nv M x), (2, .slice none 0 0), (0, nv M x)] O (opAt Tryd.f40 1 1) (.bool false) ∧ Kt [(4, .bool false), (2, .slice none 0 0), (0, nv M x)] O) (by kernel_rfl) (fun _ => by kernel_rfl) (⟨(rowNil_ok (x := .tmp 3) (t' := 47) (n := qsz M) (p := pOf x) (c := cOf x) (by kernel_rfl) rfl Tryd.underlying47 (by rw [natO_none hM]; exact decide_eq_false h0)), fun ac2 wd2 FF2 MM2 => then_n ?_⟩))
  refine wp_cond_false (FF2.ev 0 rfl) ?_
  refine wp_skip ?_
  refine then_n ?_
  refine wp_seq (wp_region_list ?_)
  refine rg_part 2 FF2 MM2 [o_, o_] [2, 0, 5, 6] (fun Kt => ∀ be, Kt [(6, nv M x), (5, .slice (some ⟨be, 0, none⟩) 0 0), (2, .slice none 0 0), (0, nv M x)] ((be, .cells (#[] : Array Value) 71) :: O)) (by kernel_rfl) (fun _ => by kernel_rfl) (fun be => fun ac3 wd3 FF3 MM3 => ?_)
  have hnew := MM3.newest (fun _ hx => hx)
  have MMw := MM3.rowOf (m := 0) (k := 1) hnew (Nat.zero_le _) rfl
  rw [show nv M x = .slice (some ad) (qsz M) (cOf x) by rw [nv, had]] at FF3
  refine st_app [2, 0, 7] FF3 MMw (d := 7) (s := 5) (x := 6) (Y := (wc (qminB M))) (z := .int .u64 (0 : Nat)) (bb := 8) rfl rfl rfl (by rw [wc_len, qminB_len]) (lies_O (by have h7 := (natO_cells hM).at MMw.hasL; rw [qminB_len]; exact cells_qmin h7) had) (wc_one _) (qsz_pos h0) Tryd.underlying47 (by kernel_rfl) rfl (by decide) (by simp only [maxLen]; omega) (by omega) rfl rfl (by decide) fun ac5 wd5 rv4 (FF5 : Fr 8 ac5 [(7, rv4), (2, .slice none 0 0), (0, .slice (some ad) (qsz M) (cOf x))]) (MM5 : MemS (fun k => k < w0.heap.size ∧ ∀ x ∈ O, x.1 ≠ k) w0 wd5 O [(rv4, 71, 1, (0 + qsz M), ([] ++ (wc (qminB M))))]) => ?_
  refine rg_part 1 FF5 MM5 [o_] [2, 0] (fun Kt => Kt [(2, rv4), (0, .slice (some ad) (qsz M) (cOf x))] O) (by kernel_rfl) (fun _ => by kernel_rfl) (fun ac6 wd6 FF6 MM6 => ?_)
  refine wpl_nil (then_n ?_)
  refine wp_ret ?_
  repeat first | refine then_ret ?_ | refine inb_ret ?_
  exact (ret_fr FF6 0 Tryd.results40 rfl (by have MMv := MM6; rw [Nat.zero_add, List.nil_append] at MMv; obtain ⟨p9, c9, rfl, _⟩ := MMv.rowLen; obtain ⟨g, rfl⟩ := MMv.rowSome (qsz_pos h0); obtain ⟨rest, MMz, hg, _, hmx, hsz, _⟩ := MMv.freezeW; exact ⟨.slice (some ⟨g, 0, none⟩) 0 c9, rfl, MMz.belowN H (fun _ hx => List.mem_cons_of_mem _ (hx)), .inr ⟨h0, g, rest, rfl, hg, MMz.get 0 rfl, hsz, hmx⟩⟩))
theorem clone_any (M : Nat) (x : Value) (hs : qsz M < 1000000) (w0 : World) (hM : NatIn w0 (nv M x) M) : Calls Tryd.prog 40 #[nv M x] w0 fun e w' => ∃ v, e = .returned (nv M v) ∧ Below w0.heap.size w0 w' ∧ CloneOf w0.heap.size w' M v := by
  obtain ⟨O, h1, h2, h3⟩ := nat1_O hM
  by_cases h0 : M = 0
  · exact clone_zero O h2 M x h3 h0 w0 h1
  · exact clone_some O h2 M x h3 hs h0 w0 h1

end Go.Proofs.YtdeiodcfblldgaaDoor
namespace Go.Proofs.YtdeiodcfblldgaaDoor

def gleB (n N : Nat) : List Nat := (List.range n).map fun j => N / 10000000000000000000 ^ j % 10000000000000000000
theorem gleB_len (n N : Nat) : (gleB n N).length = n := by simp [gleB]
theorem gleB_lt (n N i : Nat) : (gleB n N).getD i 0 < 10000000000000000000 := by
  rw [List.getD_eq_getElem?_getD]
  cases h : (gleB n N)[i]? with
  | none => decide
  | some x =>
    obtain ⟨j, _, rfl⟩ := List.mem_map.1 (List.mem_of_getElem? h)
    exact Nat.mod_lt _ (by decide)
theorem gleB_get {n N i : Nat} (h : i < n) : (gleB n N).getD i 0 = N / 10000000000000000000 ^ i % 10000000000000000000 := by simp [gleB, h]
def gleV : List Nat → Nat
  | [] => 0
  | x :: r => x + 10000000000000000000 * gleV r
theorem gleV_app : ∀ (A B : List Nat), gleV (A ++ B) = gleV A + 10000000000000000000 ^ A.length * gleV B
  | [], B => by simp [gleV]
  | x :: r, B => by simp only [List.cons_append, gleV, gleV_app r B, List.length_cons, Nat.pow_succ]; grind
theorem gleV_zeros (n : Nat) : gleV (List.replicate n 0) = 0 := by
  induction n with
  | zero => rfl
  | succ n ih => rw [List.replicate_succ, gleV, ih]
theorem gleV_lt : ∀ (A : List Nat), (∀ i, A.getD i 0 < 10000000000000000000) → gleV A < 10000000000000000000 ^ A.length
  | [], _ => by simp [gleV]
  | x :: r, h => by
    have h0 := h 0
    have ih := gleV_lt r (fun i => by have := h (i + 1); simpa using this)
    simp at h0
    simp only [gleV, List.length_cons, Nat.pow_succ]
    omega
theorem gleV_div : ∀ (A : List Nat), (∀ i, A.getD i 0 < 10000000000000000000) → ∀ i, gleV A / 10000000000000000000 ^ i % 10000000000000000000 = A.getD i 0
  | [], _, i => by simp [gleV]
  | x :: r, h, 0 => by have := h 0; simp at this; simp [gleV]; omega
  | x :: r, h, i + 1 => by
    have h0 := h 0
    simp at h0
    have ih := gleV_div r (fun i => by have := h (i + 1); simpa using this) i
    have : (x + 10000000000000000000 * gleV r) / 10000000000000000000 ^ (i + 1) = gleV r / 10000000000000000000 ^ i := by
      rw [Nat.pow_succ', ← Nat.div_div_eq_div_mul]
      congr 1
      omega
    simp only [gleV, this, ih]
    simp
def gcarB (A B j : Nat) : Nat := (A % 10000000000000000000 ^ j + B % 10000000000000000000 ^ j) / 10000000000000000000 ^ j
theorem gcar_digit (A B j : Nat) : (gcarB A B j + (A / 10000000000000000000 ^ j % 10000000000000000000 + B / 10000000000000000000 ^ j % 10000000000000000000)) % 10000000000000000000 = (A + B) / 10000000000000000000 ^ j % 10000000000000000000 := by
  rw [sum_div A B (10000000000000000000 ^ j) (Nat.pow_pos (by decide))]
  unfold gcarB
  omega
theorem gcar_step (A B j : Nat) : (gcarB A B j + (A / 10000000000000000000 ^ j % 10000000000000000000 + B / 10000000000000000000 ^ j % 10000000000000000000)) / 10000000000000000000 = gcarB A B (j + 1) := by
  have e : ∀ X : Nat, X % 10000000000000000000 ^ (j + 1) = X % 10000000000000000000 ^ j + 10000000000000000000 ^ j * (X / 10000000000000000000 ^ j % 10000000000000000000) := fun X => by
    rw [Nat.pow_succ, Nat.mod_mul]
  unfold gcarB
  rw [e A, e B, Nat.pow_succ, ← Nat.div_div_eq_div_mul]
  congr 1
  have : A % 10000000000000000000 ^ j + 10000000000000000000 ^ j * (A / 10000000000000000000 ^ j % 10000000000000000000) + (B % 10000000000000000000 ^ j + 10000000000000000000 ^ j * (B / 10000000000000000000 ^ j % 10000000000000000000)) = (A % 10000000000000000000 ^ j + B % 10000000000000000000 ^ j) + 10000000000000000000 ^ j * (A / 10000000000000000000 ^ j % 10000000000000000000 + B / 10000000000000000000 ^ j % 10000000000000000000) := by rw [Nat.mul_add]; omega
  rw [this, Nat.add_mul_div_left _ _ (Nat.pow_pos (by decide))]
theorem gcar_zero (A B : Nat) : gcarB A B 0 = 0 := by simp [gcarB, Nat.mod_one]
theorem gcar_lt (A B j : Nat) : gcarB A B j < 2 := by
  unfold gcarB
  have h1 := Nat.mod_lt A (show 10000000000000000000 ^ j > 0 from Nat.pow_pos (by decide))
  have h2 := Nat.mod_lt B (show 10000000000000000000 ^ j > 0 from Nat.pow_pos (by decide))
  exact Nat.div_lt_of_lt_mul (by omega)
/-- How many bytes a number has. -/
def gszT (N : Nat) : Nat → Nat
  | 0 => 0
  | k + 1 => if N < 10000000000000000000 ^ k then gszT N k else k + 1
def gsz (N : Nat) : Nat := gszT N N
theorem gszT_ok (N : Nat) : ∀ k, N < 10000000000000000000 ^ k → N < 10000000000000000000 ^ gszT N k ∧ (gszT N k = 0 ∨ 10000000000000000000 ^ (gszT N k - 1) ≤ N)
  | 0, h => ⟨h, .inl rfl⟩
  | k + 1, h => by
    unfold gszT
    split
    · rename_i h1; exact gszT_ok N k h1
    · rename_i h1; exact ⟨h, .inr (Nat.le_of_not_lt h1)⟩
theorem gsz_ok (N : Nat) : N < 10000000000000000000 ^ gsz N ∧ (gsz N = 0 ∨ 10000000000000000000 ^ (gsz N - 1) ≤ N) := gszT_ok N N (Nat.lt_pow_self (by decide))
theorem gpw_le {m n : Nat} (h : m ≤ n) : 10000000000000000000 ^ m ≤ 10000000000000000000 ^ n := Nat.pow_le_pow_right (by decide) h
theorem gpw_pos (n : Nat) : 0 < 10000000000000000000 ^ n := Nat.pow_pos (by decide)
theorem gsz_le {N n : Nat} (h : N < 10000000000000000000 ^ n) : gsz N ≤ n := by
  rcases (gsz_ok N).2 with b | b
  · omega
  · rcases Nat.lt_or_ge n (gsz N) with c | c
    · have := gpw_le (show n ≤ gsz N - 1 by omega); omega
    · exact c
theorem gsz_of {N n : Nat} (h : N < 10000000000000000000 ^ n) (h2 : n = 0 ∨ 10000000000000000000 ^ (n - 1) ≤ N) : n = gsz N := by
  have h1 := gsz_le h
  rcases h2 with h2 | h2
  · omega
  · rcases Nat.lt_or_ge (gsz N) n with c | c
    · have := gpw_le (show gsz N ≤ n - 1 by omega)
      have := (gsz_ok N).1
      omega
    · omega
theorem gsz_mono {M N : Nat} (h : M ≤ N) : gsz M ≤ gsz N := gsz_le (Nat.lt_of_le_of_lt h (gsz_ok N).1)
theorem glt_sz {N n : Nat} (h : gsz N ≤ n) : N < 10000000000000000000 ^ n := Nat.lt_of_lt_of_le (gsz_ok N).1 (gpw_le h)
/-- The fewest bytes. -/
def gminB (N : Nat) : List Nat := gleB (gsz N) N
theorem gminB_len (N : Nat) : (gminB N).length = gsz N := gleB_len _ _
theorem gminB_lt (N i : Nat) : (gminB N).getD i 0 < 10000000000000000000 := gleB_lt _ _ _
theorem gminB_get (N i : Nat) : (gminB N).getD i 0 = N / 10000000000000000000 ^ i % 10000000000000000000 := by
  rcases Nat.lt_or_ge i (gsz N) with h | h
  · exact gleB_get h
  · rw [List.getD_eq_getElem?_getD, List.getElem?_eq_none (by rw [gminB_len]; exact h), Nat.div_eq_of_lt (glt_sz h)]; rfl
theorem gleB_succ (n N : Nat) : gleB (n + 1) N = gleB n N ++ [N / 10000000000000000000 ^ n % 10000000000000000000] := by simp [gleB, List.range_succ]
theorem gleV_leB (n N : Nat) : gleV (gleB n N) = N % 10000000000000000000 ^ n := by
  induction n with
  | zero => simp [gleB, gleV, Nat.mod_one]
  | succ n ih => rw [gleB_succ, gleV_app, ih, gleB_len, Nat.pow_succ, Nat.mod_mul]; simp [gleV]
theorem gleV_none {A : List Nat} (h : ∀ i, A.getD i 0 = 0) : gleV A = 0 := by
  induction A with
  | nil => rfl
  | cons x r ih =>
    have h0 := h 0
    simp at h0
    rw [gleV, ih (fun i => by have := h (i + 1); simpa using this), h0]
/-- Noughts at the end are cut off. -/
theorem gtrim_ok {X : List Nat} (hX : ∀ i, X.getD i 0 < 10000000000000000000) {n : Nat} (hn : n ≤ X.length) (h0 : ∀ i, n ≤ i → X.getD i 0 = 0) (h1 : n = 0 ∨ X.getD (n - 1) 0 ≠ 0) : X.take n = gminB (gleV X) := by
  have e : gleV X = gleV (X.take n) := by
    conv => lhs; rw [← List.take_append_drop n X]
    rw [gleV_app, gleV_none (A := X.drop n) (fun i => by have := h0 (n + i) (by omega); simpa only [List.getD_eq_getElem?_getD, List.getElem?_drop] using this), Nat.mul_zero, Nat.add_zero]
  have l : (X.take n).length = n := by simp; omega
  have hlt : gleV X < 10000000000000000000 ^ n := by
    rw [e]
    have := gleV_lt (X.take n) (fun i => by
      rw [List.getD_eq_getElem?_getD, List.getElem?_take]
      split
      · have := hX i; rwa [List.getD_eq_getElem?_getD] at this
      · decide)
    rwa [l] at this
  have hs : n = gsz (gleV X) := gsz_of hlt (h1.imp id fun h => Nat.le_of_not_lt fun hc => h (by rw [← gleV_div X hX, Nat.div_eq_of_lt hc]))
  unfold gminB
  rw [← hs]
  refine ext_getD (by rw [l, gleB_len]) fun i hi => ?_
  rw [l] at hi
  rw [gleB_get hi, gleV_div X hX, List.getD_eq_getElem?_getD, List.getElem?_take, if_pos hi, List.getD_eq_getElem?_getD]
/-! ### Sums -/
theorem gadd_end {M N i : Nat} (h1 : gsz M ≤ i) (h2 : gsz N ≤ i) (h3 : gcarB M N i = 0) : M + N < 10000000000000000000 ^ i := by
  unfold gcarB at h3
  rw [Nat.mod_eq_of_lt (glt_sz h1), Nat.mod_eq_of_lt (glt_sz h2)] at h3
  rcases Nat.lt_or_ge (M + N) (10000000000000000000 ^ i) with h | h
  · exact h
  · have := Nat.div_pos h (gpw_pos i); omega
theorem gadd_val {M N i : Nat} (h : M + N < 10000000000000000000 ^ i) : gleV (gleB i (M + N)) = M + N := by rw [gleV_leB, Nat.mod_eq_of_lt h]
theorem gcar_more {M N i : Nat} (h : gcarB M N i > 0) : i ≤ gsz M + gsz N := by
  rcases Nat.lt_or_ge (gsz M + gsz N) i with c | c
  · exfalso
    have h1 := glt_sz (N := M) (n := i - 1) (by omega)
    have h2 := glt_sz (N := N) (n := i - 1) (by omega)
    have h3 : 10000000000000000000 ^ i = 10000000000000000000 ^ (i - 1) * 10000000000000000000 := by rw [← Nat.pow_succ]; congr 1; omega
    have : gcarB M N i = 0 := by
      unfold gcarB
      rw [Nat.mod_eq_of_lt (show M < 10000000000000000000 ^ i by omega), Nat.mod_eq_of_lt (show N < 10000000000000000000 ^ i by omega)]
      exact Nat.div_eq_of_lt (by omega)
    omega
  · exact c
/-! ### Differences -/
def gborN (M N i : Nat) : Nat := if M % 10000000000000000000 ^ i < N % 10000000000000000000 ^ i then 1 else 0
theorem gbor_zero (M N : Nat) : gborN M N 0 = 0 := by simp [gborN, Nat.mod_one]
theorem gbor_lt (M N i : Nat) : gborN M N i < 2 := by unfold gborN; split <;> decide
theorem gbor_step (M N i : Nat) : gborN M N (i + 1) = if M / 10000000000000000000 ^ i % 10000000000000000000 < N / 10000000000000000000 ^ i % 10000000000000000000 + gborN M N i then 1 else 0 := by
  have e : ∀ X : Nat, X % 10000000000000000000 ^ (i + 1) = X % 10000000000000000000 ^ i + 10000000000000000000 ^ i * (X / 10000000000000000000 ^ i % 10000000000000000000) := fun X => by
    rw [Nat.pow_succ, Nat.mod_mul]
  unfold gborN
  rw [e M, e N]
  have b1 := Nat.mod_lt M (gpw_pos i)
  have b2 := Nat.mod_lt N (gpw_pos i)
  generalize M / 10000000000000000000 ^ i % 10000000000000000000 = a
  generalize N / 10000000000000000000 ^ i % 10000000000000000000 = b
  generalize M % 10000000000000000000 ^ i = r at *
  generalize N % 10000000000000000000 ^ i = s at *
  generalize 10000000000000000000 ^ i = B at *
  rcases Nat.lt_trichotomy a b with c | c | c
  · obtain ⟨q, rfl⟩ := Nat.exists_eq_add_of_lt c
    have : B * (a + q + 1) = B * a + B * q + B := by rw [Nat.mul_add, Nat.mul_add, Nat.mul_one]
    rw [if_pos (show r + B * a < s + B * (a + q + 1) by omega), if_pos (by omega)]
  · subst c
    by_cases h : r < s
    · rw [if_pos (show r + B * a < s + B * a by omega), if_pos h, if_pos (by omega)]
    · rw [if_neg (show ¬ r + B * a < s + B * a by omega), if_neg h, if_neg (by omega)]
  · obtain ⟨q, rfl⟩ := Nat.exists_eq_add_of_lt c
    have : B * (b + q + 1) = B * b + B * q + B := by rw [Nat.mul_add, Nat.mul_add, Nat.mul_one]
    rw [if_neg (show ¬ r + B * (b + q + 1) < s + B * b by omega), if_neg (by split <;> omega)]
theorem gsub_neg {M N i : Nat} (hle : N ≤ M) (h : M / 10000000000000000000 ^ i % 10000000000000000000 < N / 10000000000000000000 ^ i % 10000000000000000000 + gborN M N i) : (M - N) / 10000000000000000000 ^ i % 10000000000000000000 + (N / 10000000000000000000 ^ i % 10000000000000000000 + gborN M N i) = M / 10000000000000000000 ^ i % 10000000000000000000 + 10000000000000000000 ∧ gborN M N (i + 1) = 1 := by
  refine ⟨?_, by rw [gbor_step, if_pos h]⟩
  obtain ⟨e, e2⟩ := sub_core (gpw_pos i) hle
  have e' : (M - N) / 10000000000000000000 ^ i = M / 10000000000000000000 ^ i - N / 10000000000000000000 ^ i - gborN M N i := e
  have e2' : N / 10000000000000000000 ^ i + gborN M N i ≤ M / 10000000000000000000 ^ i := e2
  have := gbor_lt M N i
  rw [e']
  generalize M / 10000000000000000000 ^ i = m at *
  generalize N / 10000000000000000000 ^ i = n at *
  generalize gborN M N i = b at *
  clear e e' e2 hle
  omega
theorem gsub_pos {M N i : Nat} (hle : N ≤ M) (h : ¬ M / 10000000000000000000 ^ i % 10000000000000000000 < N / 10000000000000000000 ^ i % 10000000000000000000 + gborN M N i) : (M - N) / 10000000000000000000 ^ i % 10000000000000000000 + (N / 10000000000000000000 ^ i % 10000000000000000000 + gborN M N i) = M / 10000000000000000000 ^ i % 10000000000000000000 ∧ gborN M N (i + 1) = 0 := by
  refine ⟨?_, by rw [gbor_step, if_neg h]⟩
  obtain ⟨e, e2⟩ := sub_core (gpw_pos i) hle
  have e' : (M - N) / 10000000000000000000 ^ i = M / 10000000000000000000 ^ i - N / 10000000000000000000 ^ i - gborN M N i := e
  have e2' : N / 10000000000000000000 ^ i + gborN M N i ≤ M / 10000000000000000000 ^ i := e2
  have := gbor_lt M N i
  rw [e']
  generalize M / 10000000000000000000 ^ i = m at *
  generalize N / 10000000000000000000 ^ i = n at *
  generalize gborN M N i = b at *
  clear e e' e2 hle
  omega
/-! ### Which is more -/
theorem gcmp_len {M N : Nat} (h : gsz M < gsz N) : M < N := Nat.lt_of_not_le fun h2 => by have := gsz_mono h2; omega
theorem gdiv_step (M i : Nat) : M / 10000000000000000000 ^ i = 10000000000000000000 * (M / 10000000000000000000 ^ (i + 1)) + M / 10000000000000000000 ^ i % 10000000000000000000 := by
  rw [Nat.pow_succ, ← Nat.div_div_eq_div_mul]; omega
theorem gcmp_lt {M N i : Nat} (h : M / 10000000000000000000 ^ (i + 1) = N / 10000000000000000000 ^ (i + 1)) (h2 : M / 10000000000000000000 ^ i % 10000000000000000000 < N / 10000000000000000000 ^ i % 10000000000000000000) : M < N := by
  have h1 : M / 10000000000000000000 ^ i < N / 10000000000000000000 ^ i := by rw [gdiv_step M i, gdiv_step N i, h]; omega
  exact Nat.lt_of_not_le fun h3 => by have := Nat.div_le_div_right (c := 10000000000000000000 ^ i) h3; omega
theorem gcmp_eq {M N i : Nat} (h : M / 10000000000000000000 ^ (i + 1) = N / 10000000000000000000 ^ (i + 1)) (h2 : M / 10000000000000000000 ^ i % 10000000000000000000 = N / 10000000000000000000 ^ i % 10000000000000000000) : M / 10000000000000000000 ^ i = N / 10000000000000000000 ^ i := by
  rw [gdiv_step M i, gdiv_step N i, h, h2]
theorem gcmp_top {M N : Nat} (h : gsz M = gsz N) : M / 10000000000000000000 ^ gsz M = N / 10000000000000000000 ^ gsz M := by
  rw [Nat.div_eq_of_lt (gsz_ok M).1, Nat.div_eq_of_lt (by rw [h]; exact (gsz_ok N).1)]
theorem gpad_leB {N n k : Nat} (hk : n ≤ k) : ((gminB N ++ List.replicate k 0).take n) = gleB n N := by
  refine ext_getD (by simp [gminB_len, gleB_len]; omega) fun i hi => ?_
  have hi' : i < n := by simp at hi; omega
  rw [gleB_get hi', ← gminB_get N i, List.getD_eq_getElem?_getD, List.getElem?_take, if_pos hi', List.getD_eq_getElem?_getD]
  rcases Nat.lt_or_ge i (gminB N).length with c | c
  · rw [List.getElem?_append_left c]
  · rw [List.getElem?_append_right c, List.getElem?_eq_none c, List.getElem?_replicate]
    split <;> rfl

end Go.Proofs.YtdeiodcfblldgaaDoor
namespace Go.Proofs.YtdeiodcfblldgaaDoor
open Go.RowKit

theorem pad_min {M n : Nat} (h : qsz M ≤ n) : qminB M ++ List.replicate (n - qsz M) 0 = qleB n M := by
  have := qpad_leB (N := M) (n := n) (k := n) (Nat.le_refl _)
  rw [← this, List.take_append, qminB_len, List.take_of_length_le (by rw [qminB_len]; exact h), List.take_replicate, Nat.min_eq_left (by omega)]
theorem g_pow (k : Nat) : 10000000000000000000 ^ k = 10 ^ (19 * k) := by rw [Nat.pow_mul]
/-- A number's words, the upper ones divided by a group. -/
def pdL (n N j : Nat) : List Nat := (List.range n).map fun k => if j ≤ k then qd (N / 10000000000000000000) k else qd N k
theorem pdL_len (n N j : Nat) : (pdL n N j).length = n := by simp [pdL]
theorem pdL_get (n N j : Nat) {k : Nat} (h : k < n) : (pdL n N j).getD k 0 = if j ≤ k then qd (N / 10000000000000000000) k else qd N k := by simp [pdL, h]
theorem pdL_top (n N : Nat) : pdL n N n = qleB n N := by
  refine ext_getD (by rw [pdL_len, qleB_len]) fun k hk => ?_
  rw [pdL_len] at hk
  rw [pdL_get n N n hk, qleB_get hk, if_neg (by omega)]; rfl
theorem pdL_zero (n N : Nat) : pdL n N 0 = qleB n (N / 10000000000000000000) := by
  refine ext_getD (by rw [pdL_len, qleB_len]) fun k hk => ?_
  rw [pdL_len] at hk
  rw [pdL_get n N 0 hk, qleB_get hk, if_pos (by omega)]; rfl
theorem pdL_step (n N j : Nat) (h : j < n) : (pdL n N (j + 1)).set j (qd (N / 10000000000000000000) j) = pdL n N j := by
  refine ext_getD (by simp [pdL]) fun k hk => ?_
  simp only [List.length_set, pdL_len] at hk
  rw [getD_set, pdL_get n N (j + 1) hk, pdL_get n N j hk, pdL_len]
  by_cases e : j = k
  · subst e; rw [if_pos ⟨rfl, h⟩, if_pos (by omega)]
  · rw [if_neg (fun h => e h.1)]
    by_cases h1 : j ≤ k
    · rw [if_pos (by omega), if_pos h1]
    · rw [if_neg (by omega), if_neg h1]
theorem part_num (N j : Nat) : N / 18446744073709551616 ^ j = N / 18446744073709551616 ^ (j + 1) * 18446744073709551616 + qd N j := by
  unfold qd
  rw [Nat.pow_succ, ← Nat.div_div_eq_div_mul]; omega
theorem part_rest (N j : Nat) : (N / 18446744073709551616 ^ (j + 1) % 10000000000000000000 * 18446744073709551616 + qd N j) % 10000000000000000000 = N / 18446744073709551616 ^ j % 10000000000000000000 := by
  rw [part_num N j]
  generalize N / 18446744073709551616 ^ (j + 1) = t
  have := qd_lt N j
  omega
theorem part_word (N j : Nat) : (N / 18446744073709551616 ^ (j + 1) % 10000000000000000000 * 18446744073709551616 + qd N j) / 10000000000000000000 = qd (N / 10000000000000000000) j := by
  have e : qd (N / 10000000000000000000) j = N / 18446744073709551616 ^ j / 10000000000000000000 % 18446744073709551616 := by unfold qd; rw [Nat.div_div_eq_div_mul, Nat.div_div_eq_div_mul, Nat.mul_comm]
  rw [e, part_num N j]
  generalize N / 18446744073709551616 ^ (j + 1) = t
  have := qd_lt N j
  omega
theorem part_top (N n : Nat) (h : qsz N ≤ n) : N / 18446744073709551616 ^ n % 10000000000000000000 = 0 := by rw [Nat.div_eq_of_lt (qlt_sz h)]
theorem reb {n K : Nat} (h : qsz K ≤ n) (rest : Array Value) : ∃ rest2 : Array Value, cn .u64 (qleB n K) ++ rest = cn .u64 (qminB K) ++ rest2 := by
  refine ⟨cn .u64 (List.replicate (n - qsz K) 0) ++ rest, ?_⟩
  rw [← pad_min h, ← Array.append_assoc]
  congr 1
  apply Array.ext'
  simp [cn]
/-! ### Decimal digits of groups -/
theorem decK_app (a b h r : Nat) (hr : r < 10 ^ b) : decK (a + b) (h * 10 ^ b + r) = decK a h ++ decK b r := by
  refine ext_getD (by simp [decK_len]) fun i hi => ?_
  rw [decK_len] at hi
  rw [decK_get _ _ hi]
  rcases Nat.lt_or_ge i a with c | c
  · rw [getD_app_l _ _ _ (by rw [decK_len]; exact c), decK_get _ _ c, show a + b - 1 - i = b + (a - 1 - i) by omega, Nat.pow_add, ← Nat.div_div_eq_div_mul, Nat.add_comm (h * 10 ^ b), Nat.add_mul_div_right _ _ (Nat.pow_pos (by decide)), Nat.div_eq_of_lt hr, Nat.zero_add]
  · rw [getD_app_r _ _ _ (by rw [decK_len]; exact c), decK_len, decK_get _ _ (by omega), show b - 1 - (i - a) = a + b - 1 - i by omega]
    have e : h * 10 ^ b = 10 ^ (a + b - 1 - i) * (10 * (10 ^ (b - (a + b - 1 - i) - 1) * h)) := by
      rw [show 10 ^ b = 10 ^ (a + b - 1 - i) * (10 * 10 ^ (b - (a + b - 1 - i) - 1)) by rw [← Nat.pow_succ', ← Nat.pow_add]; congr 1; omega]
      simp only [Nat.mul_comm, Nat.mul_left_comm]
    rw [e, Nat.mul_add_div (Nat.pow_pos (by decide)), Nat.mul_add_mod]
theorem dsz_app {h r b : Nat} (hh : h ≠ 0) (hr : r < 10 ^ b) : dsz (h * 10 ^ b + r) = dsz h + b := by
  obtain ⟨h1, h2⟩ := dsz_ok h
  have h2 := h2.resolve_left (Nat.ne_of_gt (dsz_pos hh))
  have hp := dsz_pos hh
  refine (dsz_of ?_ (.inr ?_)).symm
  · rw [Nat.pow_add]
    have : (h + 1) * 10 ^ b ≤ 10 ^ dsz h * 10 ^ b := Nat.mul_le_mul_right _ h1
    rw [Nat.add_mul, Nat.one_mul] at this
    omega
  · rw [show dsz h + b - 1 = dsz h - 1 + b by omega, Nat.pow_add]
    have := Nat.mul_le_mul_right (10 ^ b) h2
    omega
theorem decN_app {h r : Nat} (hh : h ≠ 0) (hr : r < 10000000000000000000) : decN (h * 10000000000000000000 + r) = decN h ++ decK 19 r := by
  have hr : r < 10 ^ 19 := hr
  have e : h * 10000000000000000000 + r = h * 10 ^ 19 + r := rfl
  have hne : h * 10 ^ 19 + r ≠ 0 := by
    have : 0 < h * 10 ^ 19 := Nat.mul_pos (Nat.pos_of_ne_zero hh) (by decide)
    omega
  rw [e, decN_K hne, dsz_app hh hr, decK_app _ _ _ _ hr, decN_K hh]
theorem decN_pad {r : Nat} (hr : r < 10000000000000000000) : List.replicate (19 - (decN r).length) 48 ++ decN r = decK 19 r ∧ (decN r).length ≤ 19 := by
  have hr : r < 10 ^ 19 := hr
  by_cases h : r = 0
  · subst h; exact ⟨by decide +kernel, by decide +kernel⟩
  · have hl := dsz_le hr
    rw [decN_len h]
    refine ⟨?_, hl⟩
    have := decK_app (19 - dsz r) (dsz r) 0 r (dsz_ok r).1
    rw [show 19 - dsz r + dsz r = 19 by omega, Nat.zero_mul, Nat.zero_add] at this
    rw [this, decN_K h]
    congr 1
    refine ext_getD (by simp [decK_len]) fun i hi => ?_
    simp only [List.length_replicate] at hi
    rw [decK_get _ _ hi, List.getD_eq_getElem?_getD, List.getElem?_replicate, if_pos hi]
    simp
theorem dec_group {M j : Nat} (h : M / 10000000000000000000 ^ (j + 1) ≠ 0) : decN (M / 10000000000000000000 ^ (j + 1)) ++ List.replicate (19 - (decN (M / 10000000000000000000 ^ j % 10000000000000000000)).length) 48 ++ decN (M / 10000000000000000000 ^ j % 10000000000000000000) = decN (M / 10000000000000000000 ^ j) := by
  have e : M / 10000000000000000000 ^ j = M / 10000000000000000000 ^ (j + 1) * 10000000000000000000 + M / 10000000000000000000 ^ j % 10000000000000000000 := by rw [Nat.pow_succ, ← Nat.div_div_eq_div_mul]; omega
  have hr : M / 10000000000000000000 ^ j % 10000000000000000000 < 10000000000000000000 := Nat.mod_lt _ (by decide)
  conv => rhs; rw [e]
  rw [decN_app h hr, List.append_assoc, (decN_pad hr).1]
theorem dsz_bd (M : Nat) : dsz M ≤ 20 * qsz M := dsz_le (Nat.lt_of_lt_of_le (qsz_ok M).1 (by rw [Nat.pow_mul]; exact Nat.pow_le_pow_left (by decide) _))
theorem decN_bd (M : Nat) : (decN M).length ≤ 1 + 20 * qsz M := by
  by_cases h : M = 0
  · subst h; decide
  · rw [decN_len h]; have := dsz_bd M; omega
theorem gsz_pos {N : Nat} (h : N ≠ 0) : 0 < gsz N := by
  rcases Nat.eq_zero_or_pos (gsz N) with h0 | h0
  · have := (gsz_ok N).1; rw [h0] at this; simp at this; omega
  · exact h0
theorem g_more {M i : Nat} (h : M / 10000000000000000000 ^ i ≠ 0) : i < gsz M := Nat.lt_of_not_le fun c => h (Nat.div_eq_of_lt (glt_sz c))
theorem g_less {M i : Nat} (h : i < gsz M) : M / 10000000000000000000 ^ i ≠ 0 := by
  have h1 := (gsz_ok M).2.resolve_left (by omega)
  have h2 : 10000000000000000000 ^ i ≤ M := Nat.le_trans (gpw_le (by omega)) h1
  exact Nat.ne_of_gt (Nat.div_pos h2 (gpw_pos i))
theorem g_next (M i : Nat) : M / 10000000000000000000 ^ i / 10000000000000000000 = M / 10000000000000000000 ^ (i + 1) := by rw [Nat.div_div_eq_div_mul, ← Nat.pow_succ]
theorem gsz_bd (M : Nat) : gsz M ≤ 2 * qsz M := gsz_le (Nat.lt_of_lt_of_le (qsz_ok M).1 (by rw [Nat.pow_mul]; exact Nat.pow_le_pow_left (by decide) _))
theorem gleB_q (n N : Nat) : ∀ i, (gleB n N).getD i 0 < 18446744073709551616 := fun i => Nat.lt_trans (gleB_lt n N i) (by decide)

end Go.Proofs.YtdeiodcfblldgaaDoor
namespace Go.Proofs.YtdeiodcfblldgaaDoor
open Go.RowKit

theorem one_has {w : World} {g : Nat} {ob : Obj} (h : w.heap[g]? = some ob) : Has w [(g, ob)] := fun i x hx => by
  cases i with
  | zero => simp at hx; subst hx; exact h
  | succ i => simp at hx
set_option maxRecDepth 100000 in
theorem parted_any (g cap K : Nat) (rest : Array Value) (hsz : (cn .u64 (qminB K) ++ rest).size = cap) (hs : qsz K < 1000000) (w0 : World) (hg : w0.heap[g]? = some (Obj.cells (cn .u64 (qminB K) ++ rest) 71)) :
    Calls Tryd.prog 43 #[.slice (some ⟨g, 0, none⟩) (qsz K) cap] w0 fun e w' => e = .returned (.int .u64 (K % 10000000000000000000 : Nat)) ∧ Turn g (.cells (cn .u64 (qleB (qsz K) (K / 10000000000000000000)) ++ rest) 71) w0 w' := by
  refine enter_fr Tryd.func43 rfl Tryd.ntmps43 (by simp) fun ac (FF : Fr 25 ac [(0, .slice (some ⟨g, 0, none⟩) (qsz K) cap)]) => ?_
  have MM0 : MemS (fun k => k < w0.heap.size ∧ ∀ x ∈ (g, Obj.cells (cn .u64 (qminB K) ++ rest) 71) :: ([] : Blks), x.1 ≠ k) w0 w0 ((g, .cells (cn .u64 (qminB K) ++ rest) 71) :: ([] : Blks)) [] := MemS.startN (one_has hg) ⟨fun y hy => (nomatch hy), trivial⟩
  have MM : MemS (fun k => k < w0.heap.size ∧ ∀ x ∈ (g, Obj.cells (cn .u64 (qminB K) ++ rest) 71) :: ([] : Blks), x.1 ≠ k) w0 w0 ((g, .cells ((cn .u64 (pdL (qsz K) K (qsz K))) ++ rest) 71) :: ([] : Blks)) [] := by rw [pdL_top]; exact MM0
  have hsz2 : ∀ i, (cn .u64 (pdL (qsz K) K i) ++ rest).size = cap := fun i => by rw [Array.size_append, cn_size, pdL_len]; rw [Array.size_append, cn_size, qminB_len] at hsz; exact hsz
  have hcap : qsz K ≤ cap := by rw [← hsz, Array.size_append, cn_size, qminB_len]; omega
  refine wp_seq (rg_seq FF MM [o_] [0, 2] (fun Kt => Kt [(2, .int .u64 (0 : Nat)), (0, .slice (some ⟨g, 0, none⟩) (qsz K) cap)] ((g, .cells ((cn .u64 (pdL (qsz K) K (qsz K))) ++ rest) 71) :: ([] : Blks))) (by kernel_rfl) (fun _ => by kernel_rfl) (fun ac1 wd1 FF1 MM1 => then_n ?_))
  refine wp_seq (rg_seq FF1 MM1 [t_ (.int .u64 (K / 18446744073709551616 ^ (qsz K) % 10000000000000000000 : Nat))] [2, 0, 3] (fun Kt => Value.int .u64 (0 : Nat) = .int .u64 (K / 18446744073709551616 ^ (qsz K) % 10000000000000000000 : Nat) ∧ Kt [(3, .int .u64 (K / 18446744073709551616 ^ (qsz K) % 10000000000000000000 : Nat)), (2, .int .u64 (0 : Nat)), (0, .slice (some ⟨g, 0, none⟩) (qsz K) cap)] ((g, .cells ((cn .u64 (pdL (qsz K) K (qsz K))) ++ rest) 71) :: ([] : Blks))) (by kernel_rfl) (fun _ => by kernel_rfl) (⟨(vI (part_top K _ (Nat.le_refl _)).symm), fun ac2 wd2 FF2 MM2 => then_n ?_⟩))
  refine wp_seq ?_
  refine wp_seq (rg_seq FF2 MM2 [o_, o_, u_ 4 (.int .i64 (((qsz K : Nat) : Int) - 1 : Int)), o_] [3, 2, 0, 4] (fun Kt => -(9223372036854775808 : Int) ≤ ((qsz K : Nat) : Int) - ((1 : Nat) : Int) ∧ ((qsz K : Nat) : Int) - ((1 : Nat) : Int) < (9223372036854775808 : Nat) ∧ Value.int .i64 (((qsz K : Nat) : Int) - ((1 : Nat) : Int) : Int) = .int .i64 (((qsz K : Nat) : Int) - 1 : Int) ∧ Kt [(4, .int .i64 (((qsz K : Nat) : Int) - 1 : Int)), (3, .int .u64 (K / 18446744073709551616 ^ (qsz K) % 10000000000000000000 : Nat)), (2, .int .u64 (0 : Nat)), (0, .slice (some ⟨g, 0, none⟩) (qsz K) cap)] ((g, .cells ((cn .u64 (pdL (qsz K) K (qsz K))) ++ rest) 71) :: ([] : Blks))) (by kernel_rfl) (fun _ => by kernel_rfl) (⟨(by omega), (by omega), (vZ (by omega)), fun ac3 wd3 FF3 MM3 => then_n ?_⟩))
  refine wp_for2 (fun a' w' => ∃ j : Nat, j ≤ qsz K ∧ Fr 25 a' [(4, .int .i64 (((j : Nat) : Int) - 1 : Int)), (3, .int .u64 (K / 18446744073709551616 ^ j % 10000000000000000000 : Nat)), (2, .int .u64 (0 : Nat)), (0, .slice (some ⟨g, 0, none⟩) (qsz K) cap)] ∧ MemS (fun k => k < w0.heap.size ∧ ∀ x ∈ (g, Obj.cells (cn .u64 (qminB K) ++ rest) 71) :: ([] : Blks), x.1 ≠ k) w0 w' ((g, .cells ((cn .u64 (pdL (qsz K) K j)) ++ rest) 71) :: ([] : Blks)) []) (fun a' _ => (cnt 4 a' + 1).toNat) ⟨qsz K, Nat.le_refl _, FF3.pick [0, 1, 2, 3], MM3⟩ ?_
  rintro ac4 wd4 ⟨j, hj, FF4, MM4⟩
  have hc := cnt_of (FF4.get 0 rfl)
  refine rg_seq FF4 MM4 [o_, w_ 4] [4, 3, 2, 0, 9] (fun Kt => Kt [(9, .bool (decide ((((j : Nat) : Int) - 1) ≥ ((0 : Nat) : Int)))), (4, .int .i64 (((j : Nat) : Int) - 1 : Int)), (3, .int .u64 (K / 18446744073709551616 ^ j % 10000000000000000000 : Nat)), (2, .int .u64 (0 : Nat)), (0, .slice (some ⟨g, 0, none⟩) (qsz K) cap)] ((g, .cells ((cn .u64 (pdL (qsz K) K j)) ++ rest) 71) :: ([] : Blks))) (by kernel_rfl) (fun _ => by kernel_rfl) (fun ac5 wd5 FF5 MM5 => ?_)
  by_cases hlt : (((j : Nat) : Int) - 1) ≥ ((0 : Nat) : Int)
  · skip
    refine then_n (.inl ⟨(FF5.ev 0 rfl).trans (dec_t hlt), ?_⟩)
    obtain ⟨j, rfl⟩ : ∃ z, j = z + 1 := ⟨j - 1, by omega⟩
    refine rg_seq FF5 MM5 [o_, t_ (.int .i64 (j : Nat)), o_, o_, t_ (.int .i64 (j : Nat)), w_ 1, l_ 0 (.int .u64 (qd K j : Nat)), t_ (.tuple #[.int .u64 (((K / 18446744073709551616 ^ (j + 1) % 10000000000000000000) * 18446744073709551616 + (qd K j)) / 10000000000000000000 : Nat), .int .u64 (((K / 18446744073709551616 ^ (j + 1) % 10000000000000000000) * 18446744073709551616 + (qd K j)) % 10000000000000000000 : Nat)]), o_, t_ (.int .u64 (qd (K / 10000000000000000000) j : Nat)), t_ (.int .u64 (K / 18446744073709551616 ^ j % 10000000000000000000 : Nat)), w_ 1, s_ 0 (.cells ((cn .u64 (pdL (qsz K) K j)) ++ rest) 71), o_] [4, 3, 2, 0] (fun Kt => Value.int .i64 ((((j + 1) : Nat) : Int) - 1 : Int) = .int .i64 (j : Nat) ∧ Value.int .i64 ((((j + 1) : Nat) : Int) - 1 : Int) = .int .i64 (j : Nat) ∧ j < (qsz K) ∧ g = g ∧ ((cn .u64 (pdL (qsz K) K (j + 1))) ++ rest)[j]? = some (.int .u64 (qd K j : Nat)) ∧ CallP Tryd.prog 50 [.int .u64 (K / 18446744073709551616 ^ (j + 1) % 10000000000000000000 : Nat), .int .u64 (qd K j : Nat), .int .u64 (10000000000000000000 : Nat)] [] (.tuple #[.int .u64 (((K / 18446744073709551616 ^ (j + 1) % 10000000000000000000) * 18446744073709551616 + (qd K j)) / 10000000000000000000 : Nat), .int .u64 (((K / 18446744073709551616 ^ (j + 1) % 10000000000000000000) * 18446744073709551616 + (qd K j)) % 10000000000000000000 : Nat)]) ∧ Value.int .u64 (((K / 18446744073709551616 ^ (j + 1) % 10000000000000000000) * 18446744073709551616 + (qd K j)) / 10000000000000000000 : Nat) = .int .u64 (qd (K / 10000000000000000000) j : Nat) ∧ Value.int .u64 (((K / 18446744073709551616 ^ (j + 1) % 10000000000000000000) * 18446744073709551616 + (qd K j)) % 10000000000000000000 : Nat) = .int .u64 (K / 18446744073709551616 ^ j % 10000000000000000000 : Nat) ∧ j < (qsz K) ∧ g = g ∧ j < ((cn .u64 (pdL (qsz K) K (j + 1))) ++ rest).size ∧ (((0, 0)).2 = 0 ∨ j < ((0, 0)).1) ∧ ((cn .u64 (pdL (qsz K) K (j + 1))) ++ rest).setIfInBounds j (.int .u64 (qd (K / 10000000000000000000) j : Nat)) = (cn .u64 (pdL (qsz K) K j)) ++ rest ∧ Kt [(3, .int .u64 (K / 18446744073709551616 ^ j % 10000000000000000000 : Nat)), (4, .int .i64 ((((j + 1) : Nat) : Int) - 1 : Int)), (2, .int .u64 (0 : Nat)), (0, .slice (some ⟨g, 0, none⟩) (qsz K) cap)] ((g, .cells ((cn .u64 (pdL (qsz K) K j)) ++ rest) 71) :: ([] : Blks))) (by kernel_rfl) (fun _ => by kernel_rfl) (⟨(vZ (by omega)), (vZ (by omega)), (by omega), rfl, ((cat_l (by rw [cn_size, pdL_len]; omega)).trans ((cn_get _ _ _ (by rw [pdL_len]; omega)).trans (congrArg some (vI ((pdL_get _ _ _ (by omega)).trans (if_neg (by omega))))))), (callP_of en_div64 (div64_any (K / 18446744073709551616 ^ (j + 1) % 10000000000000000000) (qd K j) (Nat.mod_lt _ (by decide)) (qd_lt K j)) _), (vI (part_word K j)), (vI (part_rest K j)), (by omega), rfl, (by rw [hsz2]; omega), (.inl rfl), ((cat_set_l (by rw [cn_size, pdL_len]; omega)).trans (congrArg (· ++ _) ((cn_set _ _ _ _).trans (congrArg _ (pdL_step _ _ _ (by omega)))))), fun ac6 wd6 FF6 MM6 => ?_⟩)
    refine inb_n (then_n ?_)
    refine rg_seq FF6 MM6 [o_, u_ 4 (.int .i64 (((j : Nat) : Int) - 1 : Int)), o_] [3, 4, 2, 0] (fun Kt => -(9223372036854775808 : Int) ≤ ((((j + 1) : Nat) : Int) - 1) - ((1 : Nat) : Int) ∧ ((((j + 1) : Nat) : Int) - 1) - ((1 : Nat) : Int) < (9223372036854775808 : Nat) ∧ Value.int .i64 (((((j + 1) : Nat) : Int) - 1) - ((1 : Nat) : Int) : Int) = .int .i64 (((j : Nat) : Int) - 1 : Int) ∧ Kt [(4, .int .i64 (((j : Nat) : Int) - 1 : Int)), (3, .int .u64 (K / 18446744073709551616 ^ j % 10000000000000000000 : Nat)), (2, .int .u64 (0 : Nat)), (0, .slice (some ⟨g, 0, none⟩) (qsz K) cap)] ((g, .cells ((cn .u64 (pdL (qsz K) K j)) ++ rest) 71) :: ([] : Blks))) (by kernel_rfl) (fun _ => by kernel_rfl) (⟨(by omega), (by omega), (vZ (by omega)), fun ac7 wd7 FF7 MM7 => ?_⟩)
    have hd := cnt_of (FF7.get 0 rfl)
    refine then_n ⟨⟨j, by omega, FF7.pick [0, 1, 2, 3], MM7⟩, ?_⟩
    rw [hc, hd]; omega
  · skip
    refine then_n (.inr ⟨(FF5.ev 0 rfl).trans (dec_f hlt), ?_⟩)
    obtain rfl : j = 0 := by omega
    refine then_n ?_
    refine wp_seq (rg_seq FF5 MM5 [o_, t_ (.int .u64 (K % 10000000000000000000 : Nat))] [4, 3, 2, 0] (fun Kt => Value.int .u64 (K / 18446744073709551616 ^ 0 % 10000000000000000000 : Nat) = .int .u64 (K % 10000000000000000000 : Nat) ∧ Kt [(2, .int .u64 (K % 10000000000000000000 : Nat)), (4, .int .i64 (((0 : Nat) : Int) - 1 : Int)), (3, .int .u64 (K / 18446744073709551616 ^ 0 % 10000000000000000000 : Nat)), (0, .slice (some ⟨g, 0, none⟩) (qsz K) cap)] ((g, .cells ((cn .u64 (pdL (qsz K) K 0)) ++ rest) 71) :: ([] : Blks))) (by kernel_rfl) (fun _ => by kernel_rfl) (⟨(vI (by rw [Nat.pow_zero, Nat.div_one])), fun ac8 wd8 FF8 MM8 => then_n ?_⟩))
    refine wp_ret ?_
    repeat first | refine then_ret ?_ | refine inb_ret ?_
    exact (ret_fr FF8 0 Tryd.results43 rfl ⟨rfl, by have h9 := MM8.turn (O := []) (fun i x hx => by simp at hx) 0 rfl (fun x hx => (nomatch hx)); rw [pdL_zero] at h9; exact h9⟩)

end Go.Proofs.YtdeiodcfblldgaaDoor
namespace Go.Proofs.YtdeiodcfblldgaaDoor
open Go.RowKit
section
variable {P : Program} {l : Slots} {L : Blks} {o : Oper} {x y : Operand}
theorem ptrNil_ok {t t' e : TypeId} (ho : o.op = .binOp .eql t x y t') (hx : evO l x = some (.pointer none)) (hy : evO l y = some (.pointer none)) (hu : P.underlying t = some (.pointer e)) : RunV P l L o (.bool true) := fun ρ w A _ => by
  have h : ∀ d : Nat, (Op.equalIn (d + 1) t (.pointer none) (.pointer none)).run P w = .ok true w := fun d => by simp [Op.equalIn, run_underlying hu]
  have h2 := h 9999
  have h3 := A x _ hx
  have h4 := A y _ hy
  simp [execOp, ho, h3, h4, eqGuard, binOp, Op.equal, Op.maxDepth, h2]
theorem ptrSome_ok {t t' e : TypeId} {ad : Addr} (ho : o.op = .binOp .eql t x y t') (hx : evO l x = some (.pointer (some ad))) (hy : evO l y = some (.pointer none)) (hu : P.underlying t = some (.pointer e)) : RunV P l L o (.bool false) := fun ρ w A _ => by
  have h : ∀ d : Nat, (Op.equalIn (d + 1) t (.pointer (some ad)) (.pointer none)).run P w = .ok false w := fun d => by simp [Op.equalIn, run_underlying hu]
  have h2 := h 9999
  have h3 := A x _ hx
  have h4 := A y _ hy
  simp [execOp, ho, h3, h4, eqGuard, binOp, Op.equal, Op.maxDepth, h2]
theorem ptrSame_ok {t t' e : TypeId} {ad : Addr} (ho : o.op = .binOp .neq t x y t') (hx : evO l x = some (.pointer (some ad))) (hy : evO l y = some (.pointer (some ad))) (hu : P.underlying t = some (.pointer e)) (he : (P.info? e).isSome = true) : RunV P l L o (.bool false) := fun ρ w A _ => by
  obtain ⟨j, hj⟩ := Option.isSome_iff_exists.1 he
  have h2 := Lib.run_neq_ptr_same (P := P) w ad hu hj
  have h3 := A x _ hx
  have h4 := A y _ hy
  simp [execOp, ho, h3, h4, eqGuard, h2]
theorem toUnsafe_ok {src dst t : TypeId} {b i : Nat} {cs : Array Value} {T : TypeId} {fr : Nat × Nat} (ho : o.op = .convert src dst x) (hx : evO l x = some (.pointer (some ⟨b, 0, none⟩))) (hs : P.underlying src = some (.pointer t)) (hd : P.underlying dst = some .unsafePointer)
    (ht : (match P.info? t with | some j => !(Nat.beq j.size 0) | none => false) = true) (hL : L[i]? = some (b, .cells cs T fr)) (hc : 0 < cs.size) : RunV P l L o (.pointer (some ⟨b, 0, none⟩)) := fun ρ w A H => by
  have hb := H i _ hL
  cases hj : P.info? t with
  | none => rw [hj] at ht; cases ht
  | some j =>
    rw [hj] at ht
    have hne : j.size ≠ 0 := fun e => by simp [e] at ht
    have hr := Lib.run_to_unsafe (P := P) w ⟨b, 0, none⟩ hs hd hj hne (e := T) (cells := cs.size) (by simp [World.shape?, hb]) hc
    simp [execOp, ho, A x _ hx, hr]
theorem fromUnsafe_ok {src dst u : TypeId} {b i : Nat} {cs : Array Value} {T : TypeId} {fr : Nat × Nat} (ho : o.op = .convert src dst x) (hx : evO l x = some (.pointer (some ⟨b, 0, none⟩))) (hs : P.underlying src = some .unsafePointer) (hd : P.underlying dst = some (.pointer u))
    (hu : (P.info? u).isSome = true) (hL : L[i]? = some (b, .cells cs T fr)) (hl : liesAt P P.depth T (cs.size / P.cellsOf T) 0 u 1 = true) : RunV P l L o (.pointer (some ⟨b, 0, none⟩)) := fun ρ w A H => by
  have hb := H i _ hL
  obtain ⟨j, hj⟩ := Option.isSome_iff_exists.1 hu
  have hr := Lib.run_from_unsafe (P := P) w ⟨b, 0, none⟩ hs hd hj (e := T) (cells := cs.size) (by simp [World.shape?, hb]) hl
  simp [execOp, ho, A x _ hx, hr]
theorem noEsc_ok {f : FuncId} {fn : Func} {ts : Array TypeId} {v : Value} (ho : o.op = .call ⟨.value (.func f), #[x], ts⟩) (hx : evO l x = some v) (hf : P.funcs[f]? = some fn) (hname : (fn.name == "runtime.NumGoroutine") = false) (hb : fn.body.isNone = true) (hn : Extern.findNext fn = none)
    (he : Extern.find fn = some Extern.AbiNoEscape.same) : RunV P l L o v := fun ρ w A _ => by
  have h1 := A x _ hx
  have h3 : ρ (.func f) = .func (.func f) #[] #[] := A (.func f) _ rfl
  have h4 : (callFunc f #[v]).run P w = .ok (.value v) w := by rw [run_callFunc_extern hf hname hb hn he, Lib.run_noEscape]; rfl
  simp [execOp, ho, resolve, h1, h3, Deferred.ofValue, invoke, h4]
theorem sdNil_ok {t : TypeId} {n c : Nat} (ho : o.op = .call ⟨.builtin .unsafeSliceData, #[x], #[t]⟩) (hx : evO l x = some (.slice none n c)) : RunV P l L o (.pointer none) := fun ρ w A _ => by
  have h1 := A x _ hx
  have h2 := Lib.run_unsafeSliceData_nil (P := P) w #[t] o.type n c
  simp [execOp, ho, resolve, invoke, builtin, h1, h2]
theorem sdRow_ok {t : TypeId} {ad : Addr} {n c : Nat} (ho : o.op = .call ⟨.builtin .unsafeSliceData, #[x], #[t]⟩) (hx : evO l x = some (.slice (some ad) n c)) (hc : c ≠ 0) : RunV P l L o (.pointer (some ad)) := fun ρ w A _ => by
  have h1 := A x _ hx
  have h2 := Lib.run_unsafeSliceData_row (P := P) w #[t] o.type ad n c hc
  simp [execOp, ho, resolve, invoke, builtin, h1, h2]
theorem usNil_ok {t u : TypeId} {p : Option Addr} (ho : o.op = .call ⟨.builtin .unsafeString, #[x, y], #[t, u]⟩) (hx : evO l x = some (.pointer p)) (hy : evO l y = some (.int .i64 (0 : Nat))) : RunV P l L o (.string (bs [])) := fun ρ w A _ => by
  have h1 := A x _ hx
  have h1' := A y _ hy
  have h2 := Lib.run_unsafeString_none (P := P) w t u o.type p
  have e : ((0 : Nat) : Int) = 0 := rfl
  rw [e] at h1'
  simp only [execOp, ho, resolve, invoke, builtin, h1, h1', h2, Sem.run_bind, Sem.run_pure, Result.andThen_ok, List.map_toArray, List.map_cons, List.map_nil]
  rfl
/-- A string over a row's head: the bytes are copied, the row is frozen so far. -/
theorem usRow_ok {t u e : TypeId} {g i : Nat} {cs : Array Value} {X : List Nat} (ho : o.op = .call ⟨.builtin .unsafeString, #[x, y], #[t, u]⟩) (hx : evO l x = some (.pointer (some ⟨g, 0, none⟩))) (hy : evO l y = some (.int .i64 (X.length : Nat)))
    (ht : P.underlying t = some (.pointer e)) (hc : P.cellsOf e = 1) (hL : L[i]? = some (g, .cells cs e)) (h0 : 0 < X.length) (hX : ∀ i, X.getD i 0 < 256) (hn : X.length ≤ cs.size) (h63 : X.length ≤ 9223372036854775807) (hcs : ∀ j, j < X.length → cs[j]? = some (.int .u8 (X.getD j 0 : Nat))) :
    RunU P l L o (.string (bs X)) [(i, .cells cs e (0, X.length))] := fun ρ w A H => by
  have h1 := A x _ hx
  have h1' := A y _ hy
  have hb := H i _ hL
  have hbl : (bs X).data.toList.length = X.length := by rw [Array.length_toList]; exact bs_size X
  have hr := Lib.run_unsafeString_row (P := P) w t u o.type e ht hc g cs.size (by simp [World.shape?, hb]) (bs X).data.toList (by intro h; rw [h] at hbl; simp at hbl; omega) (by rw [hbl]; exact hn) (by rw [hbl]; exact h63) (fun j z hz => by
    have hj : j < X.length := by rw [← hbl]; exact (List.getElem?_eq_some_iff.1 hz).1
    have e1 : (⟨g, 0, none⟩ : Addr).add j = ⟨g, j, none⟩ := by unfold Addr.add; split <;> simp_all
    rw [e1, Lib.cell_of_heap hb, hcs j hj]
    have e2 := byte_bs hX j
    simp only [nl] at e2
    have e3 : z.toNat = X.getD j 0 := by
      rw [← e2]
      simp [hz]
    rw [e3])
  rw [hbl] at hr
  refine ⟨w.freeze ⟨g, 0, none⟩ X.length, ?_, ?_⟩
  · simp only [execOp, ho, resolve, invoke, builtin, h1, h1', hr, Sem.run_bind, Sem.run_pure, Result.andThen_ok, List.map_toArray, List.map_cons, List.map_nil]
  · have hne : X.length ≠ 0 := by omega
    unfold World.freeze
    rw [if_neg hne]
    refine ⟨rfl, rfl, rfl, by simp, fun k hk hu => ?_, fun o h => (nomatch h), fun _ => rfl, fun u hu z hz => ?_⟩
    · simp only [Array.getElem?_modify]
      rw [if_neg]
      intro e
      exact hu _ (List.mem_singleton.2 rfl) _ hL e
    · obtain rfl := List.mem_singleton.1 hu
      simp only at hz
      obtain rfl := Option.some.inj (hL.symm.trans hz)
      simp [Array.getElem?_modify, hb]
end
end Go.Proofs.YtdeiodcfblldgaaDoor
