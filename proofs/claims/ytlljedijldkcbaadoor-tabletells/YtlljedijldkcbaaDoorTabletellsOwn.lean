/- TableTells, for every four whole numbers, every word of at most 40 bytes, every tape of at most 300 bytes and every count of tries: whether they are a table; its numbers, their weights; at which number the word stands; what is drawn, and how much was taken, are what the document tells: the law returns true, and nothing that was there has turned. Condition: the tables of the standard library that package nat reaches hold what the text of the program lays there (tied). -/
import Derived.Test.YtlljedijldkcbaaDoorZ9
import Derived.Test.YtlljedijldkcbaaDoorZ8
import Derived.Test.YtlljedijldkcbaaDoorZ2
import Derived.SliceStrings
import Derived.Test.YtlljedijldkcbaaDoorCards
import Derived.Test.YtlljedijldkcbaaDoorTie
import Derived.ChangeMaps5
import Derived.SevenTiedAt
import Derived.SizedLaws
namespace Go.Proofs.YtlljedijldkcbaaDoor
open Go.ChangeShapes Go.WideShapes Go.ChangeAt Go.RowKit
theorem tabletells_door (os : Os) (args : Array Value) : laidMetH Tryd.prog [("math/bits.deBruijn32tab", Rows.laid_math_bits_deBruijn32tab), ("math/bits.deBruijn64tab", Rows.laid_math_bits_deBruijn64tab), ("internal/strconv.uint64pow10", Rows.laid_internal_strconv_uint64pow10)] ((World.doorLaid Tryd.prog 400 os).forCall (fun _ _ => 0) ⟨#[], args, []⟩).memory :=
  laidMetH_of_parts3 (fuel := 8) (laidMet_of_run' 8 (by kernel_rfl) (by kernel_rfl)) (by kernel_rfl) (by kernel_rfl)
theorem int4_in {H : Type} {enc : TypeId × Value → H} {P : Program} {W : World} {base' : Nat} {spare : Nat → Bool} {held : Bool} {fuel : Nat} {t e : TypeId} {L : List Value} {x : DataW H × List MemPlace} (hu : P.underlying t = some (.array 4 e)) (he : P.underlying e = some (.int .i64)) (hc : P.cellsOf e = 1) (hf : DataW.trod enc P W base' spare held fuel t L = some x) :
    ∃ a b r m : Int, -9223372036854775808 ≤ a ∧ a < 9223372036854775808 ∧ -9223372036854775808 ≤ b ∧ b < 9223372036854775808 ∧ -9223372036854775808 ≤ r ∧ r < 9223372036854775808 ∧ -9223372036854775808 ≤ m ∧ m < 9223372036854775808 ∧ ∀ (j : Nat) (v : Value), (#[.int .i64 a, .int .i64 b, .int .i64 r, .int .i64 m] : Array Value)[j]? = some v → L[j]? = some v := by
  obtain ⟨xs, m, _, _, _, hl, hel⟩ := DataW.trod_array hu hf
  rw [hc] at hel
  have key : ∀ i, i < 4 → ∃ k : Int, L[i]? = some (.int .i64 k) ∧ -9223372036854775808 ≤ k ∧ k < 9223372036854775808 := fun i hi => by
    have h1 := hel i hi
    have h2 : xs[i]? = some (xs[i]'(by omega)) := by simp
    rw [h2] at h1
    obtain ⟨k, e, _, wf⟩ := DataW.trod_int he h1
    have bb := bounds_i64 wf
    refine ⟨k, ?_, bb.1, by have := bb.2; omega⟩
    rw [Nat.mul_one] at e
    have h3 := congrArg (fun l => l[0]?) e
    simpa using h3
  obtain ⟨z0, q0, u0, v0⟩ := key 0 (by decide)
  obtain ⟨z1, q1, u1, v1⟩ := key 1 (by decide)
  obtain ⟨z2, q2, u2, v2⟩ := key 2 (by decide)
  obtain ⟨z3, q3, u3, v3⟩ := key 3 (by decide)
  refine ⟨z0, z1, z2, z3, u0, v0, u1, v1, u2, v2, u3, v3, fun j v hv => ?_⟩
  match j with
  | 0 => simp at hv; subst hv; exact q0
  | 1 => simp at hv; subst hv; exact q1
  | 2 => simp at hv; subst hv; exact q2
  | 3 => simp at hv; subst hv; exact q3
  | j + 4 => simp at hv
theorem part_inA {ps cs : Array Value} {k off : Nat} (h : ∀ (j : Nat) (v : Value), ps[j]? = some v → (List.take k (List.drop off (Value.agg cs).cells.toList))[j]? = some v) : ∀ (j : Nat) (v : Value), ps[j]? = some v → cs[off + j]? = some v := fun j v hv => by
  have := h j v hv
  rw [List.getElem?_take] at this
  split at this
  · simpa [Value.cells] using this
  · cases this
set_option maxRecDepth 10000 in
theorem tells_open {H : Type} {enc : TypeId × Value → H} {W : World} {r : Reach} {base base' : Nat} {spare : Nat → Bool} {held : Bool} {v : Value} {d : DataW H} {p : List MemPlace} (hv : Value.okWide Tryd.prog W r base 24 v) (h : DataW.Trod enc Tryd.prog W base' spare held 24 v d p) :
    ∃ (cp : Array Value) (za : Int) (zb : Int) (zr : Int) (zm : Int) (Y : List Nat) (X : List Nat) (t : Int), v = .agg cp ∧ (-9223372036854775808 ≤ za) ∧ (za < 9223372036854775808) ∧ (-9223372036854775808 ≤ zb) ∧ (zb < 9223372036854775808) ∧ (-9223372036854775808 ≤ zr) ∧ (zr < 9223372036854775808) ∧ (-9223372036854775808 ≤ zm) ∧ (zm < 9223372036854775808) ∧ PartAt cp 0 #[.int .i64 za, .int .i64 zb, .int .i64 zr, .int .i64 zm] ∧ (∀ i, Y.getD i 0 < 256) ∧ cp[4]? = some (.string (bs Y)) ∧ Y.length ≤ maxLen ∧ (∀ i, X.getD i 0 < 256) ∧ cp[5]? = some (.string (bs X)) ∧ X.length ≤ maxLen ∧ (-9223372036854775808 ≤ t) ∧ (t < 9223372036854775808) ∧ cp[6]? = some (.int .i64 t) := by
  have hv' : ∃ cs, v = .agg cs := by
    simp only [Value.okWide, Tryd.underlying24] at hv
    obtain ⟨cs, h1, _⟩ := hv
    exact ⟨cs, h1⟩
  obtain ⟨cs, rfl⟩ := hv'
  obtain ⟨fuel, hf⟩ := h
  obtain ⟨xs, m, _, _, hl, hlen, hel⟩ := DataW.trod_struct Tryd.underlying24 hf
  have hx : xs.length = 4 := hlen
  have g : ∀ i, i < 4 → xs[i]? = some (xs[i]?.getD (.agg [], [])) := fun i hi => by simp [hx, hi]
  have e0 : DataW.trod enc Tryd.prog W base' spare held m 22 (List.take (Tryd.prog.cellsOf 22) (List.drop 0 (Value.agg cs).cells.toList)) = xs[0]? := hel 0 _ rfl
  rw [show Tryd.prog.cellsOf 22 = 4 by kernel_rfl, g 0 (by omega)] at e0
  obtain ⟨za, zb, zr, zm, uza, vza, uzb, vzb, uzr, vzr, uzm, vzm, p0⟩ := int4_in Tryd.underlying22 Tryd.underlying3 (by kernel_rfl) e0
  have e1 : DataW.trod enc Tryd.prog W base' spare held m 9 (List.take (Tryd.prog.cellsOf 9) (List.drop 4 (Value.agg cs).cells.toList)) = xs[1]? := hel 1 _ rfl
  rw [show Tryd.prog.cellsOf 9 = 1 by kernel_rfl, g 1 (by omega)] at e1
  obtain ⟨s1, q1, _, m1⟩ := DataW.trod_string Tryd.underlying9 e1
  have e2 : DataW.trod enc Tryd.prog W base' spare held m 9 (List.take (Tryd.prog.cellsOf 9) (List.drop 5 (Value.agg cs).cells.toList)) = xs[2]? := hel 2 _ rfl
  rw [show Tryd.prog.cellsOf 9 = 1 by kernel_rfl, g 2 (by omega)] at e2
  obtain ⟨s2, q2, _, m2⟩ := DataW.trod_string Tryd.underlying9 e2
  have e3 : DataW.trod enc Tryd.prog W base' spare held m 3 (List.take (Tryd.prog.cellsOf 3) (List.drop 6 (Value.agg cs).cells.toList)) = xs[3]? := hel 3 _ rfl
  rw [show Tryd.prog.cellsOf 3 = 1 by kernel_rfl, g 3 (by omega)] at e3
  obtain ⟨t, q3, _, w3⟩ := DataW.trod_int Tryd.underlying3 e3
  have bb3 := bounds_i64 w3
  exact ⟨cs, za, zb, zr, zm, nl s1, nl s2, t, rfl, uza, vza, uzb, vzb, uzr, vzr, uzm, vzm, part_inA p0, nl_lt s1, (by rw [bs_nl]; have h3 := congrArg (fun l => l[0]?) q1; simpa [Value.cells] using h3), (by rw [nl_len]; exact m1), nl_lt s2, (by rw [bs_nl]; have h3 := congrArg (fun l => l[0]?) q2; simpa [Value.cells] using h3), (by rw [nl_len]; exact m2), bb3.1, (by have := bb3.2; omega), (by have h3 := congrArg (fun l => l[0]?) q3; simpa [Value.cells] using h3)⟩
set_option maxRecDepth 100000 in
theorem tabletells_lifted (os : Os) (started : os.Started) (H : Type) (enc : TypeId × Value → H) :
    ReturnsInHanded {} Tryd.checked os 3 .any (fun w args => (Rows.tableTellsSpec.pre enc Tryd.prog Tryd.f3 [] false w args ∧ laidMetH Tryd.prog [("math/bits.deBruijn32tab", Rows.laid_math_bits_deBruijn32tab), ("math/bits.deBruijn64tab", Rows.laid_math_bits_deBruijn64tab), ("internal/strconv.uint64pow10", Rows.laid_internal_strconv_uint64pow10)] w) ∧ sizedMet enc Tryd.prog Tryd.f3 (OpenSpec.ofChange Rows.tableTellsSpec) false w args) (Rows.tableTellsSpec.post enc Tryd.prog Tryd.f3 false true false false) := by
  refine returnsInHanded_of_change_and (C := Tryd.checked) (X := fun w _ => laidMetH Tryd.prog [("math/bits.deBruijn32tab", Rows.laid_math_bits_deBruijn32tab), ("math/bits.deBruijn64tab", Rows.laid_math_bits_deBruijn64tab), ("internal/strconv.uint64pow10", Rows.laid_internal_strconv_uint64pow10)] w) (fun _ _ _ hh h => h.of_heap hh) Tryd.own started (by kernel_rfl) Tryd.func3
    (ChangeSpec.witness_shaped (enc := enc) (C := Tryd.checked) (os := os) (X := fun w _ => laidMetH Tryd.prog [("math/bits.deBruijn32tab", Rows.laid_math_bits_deBruijn32tab), ("math/bits.deBruijn64tab", Rows.laid_math_bits_deBruijn64tab), ("internal/strconv.uint64pow10", Rows.laid_internal_strconv_uint64pow10)] w) false (World.doorLaid Tryd.prog 400 os) #[.agg #[.int .i64 0, .int .i64 0, .int .i64 0, .int .i64 0, .string (bs []), .string (bs []), .int .i64 0]] 8 rfl (World.shaped_of_RefB (by kernel_rfl) (by kernel_rfl)) (by kernel_rfl) (by kernel_rfl) (by kernel_rfl) (tabletells_door os _)) ?_
  intro W base args ds gs before hval0 hW _ hsz0 hL _
  have hval : ∀ (j : Nat) t v, Tryd.f3.params[j]? = some t → args[j]? = some v → Value.okWide Tryd.prog W .any base t v := hval0
  have hW' := hW
  obtain ⟨p, q, hA0, hV, rfl, hfz, hnd⟩ := hW
  have hA : DataW.TrodAll enc Tryd.prog W 0 (fun _ => true) true Tryd.f3.params.toList args.toList ds p := hA0
  have hsz : (DataW.weightsEach Tryd.prog (Tryd.f3.params.toList ++ Rows.tableTellsSpec.plain.varTypes Tryd.prog) (ds ++ gs)).all (· ≤ reachBytes) = true := hsz0
  rw [Tryd.params3] at hA hval hsz
  obtain ⟨v0, d0, rfl, rfl, h0_⟩ := trodAll_one hA
  obtain ⟨rfl, rfl⟩ := trodVars_none hV
  obtain ⟨Tg, fg, hg⟩ := tab_of hL (by kernel_rfl) (List.mem_cons_of_mem _ (List.mem_cons_of_mem _ (List.mem_singleton.2 rfl))) (g := 2) (t := 132) (e := 61) (K := pw10) (by kernel_rfl) (by kernel_rfl) Tryd.underlying132 Tryd.underlying61 (by kernel_rfl) (by kernel_rfl) (by kernel_rfl) (by kernel_rfl)
  obtain ⟨O, hH, hD0, hT⟩ := tab_O (tab_in hg)
  have hD := distinct_of hD0
  obtain ⟨cp, a, b, r, m, Y, X, t, rfl, ha1, ha2, hb1, hb2, hr1, hr2, hm1, hm2, c0, hY, c4, _, hX, c5, _, _, _, c6⟩ := tells_open (hval 0 24 v0 rfl rfl) h0_
  by_cases h : TOz a b r m
  · obtain ⟨a, b, r, m, rfl, rfl, rfl, rfl, hk⟩ := tok_of h
    refine (tells_ok O hD hT a b r m hk cp c0 Y X hY hX c4 c5 t c6 W hH).mono fun e W' ⟨he, hb⟩ => ?_
    subst he
    exact ⟨_, rfl, post_true Tryd.laidOut (by rw [Tryd.params3]; decide +kernel) rfl hW' rfl rfl rfl rfl Tryd.underlying4 hb⟩
  · skip
    refine (tells_no O hD hT a b r m h ha1 ha2 hb1 hb2 hr1 hr2 hm1 hm2 cp c0 Y X hY hX c4 c5 t c6 W hH).mono fun e W' ⟨he, hb⟩ => ?_
    subst he
    exact ⟨_, rfl, post_true Tryd.laidOut (by rw [Tryd.params3]; decide +kernel) rfl hW' rfl rfl rfl rfl Tryd.underlying4 hb⟩
theorem tabletells_row : Rows.TableTellsSaid :=
  OpenClaim.holds_of_wide 3 Tryd.f3 rfl rfl rfl rfl rfl rfl rfl ⟨rfl, rfl, rfl, rfl, rfl⟩ rfl rfl rfl rfl rfl (by kernel_rfl) Tryd.func3 (by kernel_rfl)
    (of_decide_eq_true (by kernel_rfl)) (by unfold Func.isWrapper; first | (rw [if_pos (by decide +kernel)]; kernel_rfl) | (rw [if_neg (by decide +kernel)]; exact ⟨rfl, rfl⟩))
    (fun os started H enc _ => tabletells_lifted os started H enc)
theorem tableTells_holds : Rows.TableTellsCardSaid :=
  Claim7.holds_tied_plain_at .later [] [.data, .data, .data] true (true, "a47f118f7247f0c0f91b6ff707b1dba7be53cd4acfb06f87de11695099adc316") false
    tabletells_row (fun _ h => by cases h) (by kernel_rfl) (fun _ h => by cases h) tableTells_row_tie rfl ⟨rfl, rfl⟩ (by kernel_rfl) rfl
    (fun f fn hf hfn => by
      obtain rfl : f = 3 := Option.some.inj ((show Tryd.prog.funcNamed "billet/billetlaw10.TableTells" = some 3 by kernel_rfl).symm.trans hf) |>.symm
      obtain rfl : fn = Tryd.f3 := (Option.some.inj (Tryd.func3.symm.trans hfn)).symm
      exact ⟨by kernel_rfl, fun j t ht => by
        rw [Tryd.params3] at ht
        have hm : t ∈ [24] := by simpa using Array.mem_of_getElem? ht
        have hall : ([24].all fun u => !Tryd.prog.wantsStandIn u) = true := by kernel_rfl
        exact (show Tryd.prog.wantsStandIn t = false by simpa using List.all_eq_true.1 hall t hm)⟩)
    (by kernel_rfl)
#print axioms tableTells_holds
end Go.Proofs.YtlljedijldkcbaaDoor
