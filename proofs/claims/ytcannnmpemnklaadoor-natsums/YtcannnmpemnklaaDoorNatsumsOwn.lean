/- NatSums, for every row of texts: of at most 12 numbers of at most 200 bytes together, the sum, the product, and what each is more than the next are those that the answer of the document says: the law returns true, and nothing that was there has turned. Condition: the tables of the standard library that package nat reaches hold what the text of the program lays there (tied). -/
import Derived.Test.YtcannnmpemnklaaDoorZ10
import Derived.Test.YtcannnmpemnklaaDoorCards
import Derived.Test.YtcannnmpemnklaaDoorTie
import Derived.ChangeMaps5
import Derived.SevenTiedAt
import Derived.SizedLaws
import Derived.SliceStrings
namespace Go.Proofs.YtcannnmpemnklaaDoor
open Go.ChangeShapes Go.WideShapes Go.ChangeAt Go.RowKit

theorem natsums_door (os : Os) (args : Array Value) : laidMetH Tryd.prog [("math/bits.deBruijn32tab", Rows.laid_math_bits_deBruijn32tab), ("math/bits.deBruijn64tab", Rows.laid_math_bits_deBruijn64tab), ("internal/strconv.uint64pow10", Rows.laid_internal_strconv_uint64pow10)] ((World.doorLaid Tryd.prog 400 os).forCall (fun _ _ => 0) ⟨#[], args, []⟩).memory :=
  laidMetH_of_parts3 (fuel := 8) (laidMet_of_run' 8 (by kernel_rfl) (by kernel_rfl)) (by kernel_rfl) (by kernel_rfl)
/-- Blocks that are there: each once. -/
theorem add_blk {w : World} {O : Blks} (hD : Distinct O) (H : Has w O) {b : Nat} {ob : Obj} (hb : w.heap[b]? = some ob) : ∃ O' : Blks, Distinct O' ∧ Has w O' ∧ (∀ x ∈ O, x ∈ O') ∧ (b, ob) ∈ O' := by
  by_cases h : ∃ x ∈ O, x.1 = b
  · obtain ⟨x, hx, rfl⟩ := h
    have := Has.mem H hx
    rw [hb] at this
    exact ⟨O, hD, H, fun _ h => h, by rw [Option.some.inj this]; exact hx⟩
  · refine ⟨(b, ob) :: O, ⟨fun y hy e => h ⟨y, hy, e⟩, hD⟩, fun i x hx => ?_, fun x hx => List.mem_cons_of_mem _ hx, by simp⟩
    match i, hx with
    | 0, hx => cases hx; exact hb
    | i + 1, hx => exact H i x (by simpa using hx)
theorem add_strs {w : World} {O : Blks} (hD : Distinct O) (H : Has w O) {p : Option Addr} {Ps : List (List Nat)} (h : StrsIn w p Ps) : ∃ O' : Blks, Distinct O' ∧ Has w O' ∧ (∀ x ∈ O, x ∈ O') ∧ StrsO O' p Ps := by
  rcases h with rfl | ⟨b, off, cs, T, fr, rfl, hb, hc⟩
  · exact ⟨O, hD, H, fun _ h => h, .inl rfl⟩
  · obtain ⟨O', h1, h2, h3, h4⟩ := add_blk hD H hb
    exact ⟨O', h1, h2, h3, .inr ⟨b, off, cs, T, fr, rfl, h4, hc⟩⟩
set_option maxRecDepth 100000 in
theorem natsums_lifted (os : Os) (started : os.Started) (H : Type) (enc : TypeId × Value → H) :
    ReturnsInHanded {} Tryd.checked os 4 .any (fun w args => (Rows.natSumsSpec.pre enc Tryd.prog Tryd.f4 [] false w args ∧ laidMetH Tryd.prog [("math/bits.deBruijn32tab", Rows.laid_math_bits_deBruijn32tab), ("math/bits.deBruijn64tab", Rows.laid_math_bits_deBruijn64tab), ("internal/strconv.uint64pow10", Rows.laid_internal_strconv_uint64pow10)] w) ∧ sizedMet enc Tryd.prog Tryd.f4 (OpenSpec.ofChange Rows.natSumsSpec) false w args) (Rows.natSumsSpec.post enc Tryd.prog Tryd.f4 false true false false) := by
  refine returnsInHanded_of_change_and (C := Tryd.checked) (X := fun w _ => laidMetH Tryd.prog [("math/bits.deBruijn32tab", Rows.laid_math_bits_deBruijn32tab), ("math/bits.deBruijn64tab", Rows.laid_math_bits_deBruijn64tab), ("internal/strconv.uint64pow10", Rows.laid_internal_strconv_uint64pow10)] w) (fun _ _ _ hh h => h.of_heap hh) Tryd.own started (by kernel_rfl) Tryd.func4
    (ChangeSpec.witness_shaped (enc := enc) (C := Tryd.checked) (os := os) (X := fun w _ => laidMetH Tryd.prog [("math/bits.deBruijn32tab", Rows.laid_math_bits_deBruijn32tab), ("math/bits.deBruijn64tab", Rows.laid_math_bits_deBruijn64tab), ("internal/strconv.uint64pow10", Rows.laid_internal_strconv_uint64pow10)] w) false (World.doorLaid Tryd.prog 400 os) #[.slice none 0 0] 8 rfl (World.shaped_of_RefB (by kernel_rfl) (by kernel_rfl)) (by kernel_rfl) (by kernel_rfl) (by kernel_rfl) (natsums_door os _)) ?_
  intro W base args ds gs before hval0 hW _ hsz0 hL _
  have hval : ∀ (j : Nat) t v, Tryd.f4.params[j]? = some t → args[j]? = some v → Value.okWide Tryd.prog W .any base t v := hval0
  have hW' := hW
  obtain ⟨p, q, hA0, hV, rfl, hfz, hnd⟩ := hW
  have hA : DataW.TrodAll enc Tryd.prog W 0 (fun _ => true) true Tryd.f4.params.toList args.toList ds p := hA0
  have hsz : (DataW.weightsEach Tryd.prog (Tryd.f4.params.toList ++ Rows.natSumsSpec.plain.varTypes Tryd.prog) (ds ++ gs)).all (· ≤ reachBytes) = true := hsz0
  rw [Tryd.params4] at hA hval hsz
  obtain ⟨v0, d0, rfl, rfl, h0_⟩ := trodAll_one hA
  obtain ⟨rfl, rfl⟩ := trodVars_none hV
  obtain ⟨Tg, fg, hg⟩ := tab_of hL (by kernel_rfl) (List.mem_cons_of_mem _ (List.mem_cons_of_mem _ (List.mem_singleton.2 rfl))) (g := 2) (t := 105) (e := 22) (K := pw10) (by kernel_rfl) (by kernel_rfl) Tryd.underlying105 Tryd.underlying22 (by kernel_rfl) (by kernel_rfl) (by kernel_rfl) (by kernel_rfl)
  obtain ⟨O, hH, hD0, hT⟩ := tab_O (tab_in hg)
  have hD := distinct_of hD0
  obtain ⟨p, Ps, cap, rfl, hP, hS, hm⟩ := strs_param Tryd.underlying43 Tryd.underlying9 (by kernel_rfl) (hval 0 43 v0 rfl rfl) h0_
  obtain ⟨O2, hD2, hH2, hsb, hO⟩ := add_strs hD hH hS
  have hT2 := hT.mono hsb
  have hn : Ps.length < 9223372036854775808 := by simp only [maxLen] at hm; omega
  by_cases hL : Ps.length > 12
  · skip
    refine (natsums_len O2 hD2 hT2 p Ps cap hP hn hO hL W hH2).mono fun e W' ⟨he, hb⟩ => ?_
    subst he
    exact ⟨_, rfl, post_true Tryd.laidOut (by rw [Tryd.params4]; decide +kernel) rfl hW' rfl rfl rfl rfl Tryd.underlying4 hb⟩
  · by_cases hF : Ps.flatten.length > 200
    · skip
      refine (natsums_long O2 hD2 hT2 p Ps cap hP hn hO hL hF W hH2).mono fun e W' ⟨he, hb⟩ => ?_
      subst he
      exact ⟨_, rfl, post_true Tryd.laidOut (by rw [Tryd.params4]; decide +kernel) rfl hW' rfl rfl rfl rfl Tryd.underlying4 hb⟩
    · skip
      refine (natsums_main O2 hD2 hT2 p Ps cap hP hn hO hL hF W hH2).mono fun e W' ⟨he, hb⟩ => ?_
      subst he
      exact ⟨_, rfl, post_true Tryd.laidOut (by rw [Tryd.params4]; decide +kernel) rfl hW' rfl rfl rfl rfl Tryd.underlying4 hb⟩

theorem natsums_row : Rows.NatSumsSaid :=
  OpenClaim.holds_of_wide 4 Tryd.f4 rfl rfl rfl rfl rfl rfl rfl ⟨rfl, rfl, rfl, rfl, rfl⟩ rfl rfl rfl rfl rfl (by kernel_rfl) Tryd.func4 (by kernel_rfl)
    (of_decide_eq_true (by kernel_rfl)) (by unfold Func.isWrapper; first | (rw [if_pos (by decide +kernel)]; kernel_rfl) | (rw [if_neg (by decide +kernel)]; exact ⟨rfl, rfl⟩))
    (fun os started H enc _ => natsums_lifted os started H enc)
theorem natSums_holds : Rows.NatSumsCardSaid :=
  Claim7.holds_tied_plain_at .later [] [.data, .data, .data] true (true, "8f32e153f0b18e377120af438ae77cc4e3678b38a3a6508d003ef7e5f1e276b0") false
    natsums_row (fun _ h => by cases h) (by kernel_rfl) (fun _ h => by cases h) natSums_row_tie rfl ⟨rfl, rfl⟩ (by kernel_rfl) rfl
    (fun f fn hf hfn => by
      obtain rfl : f = 4 := Option.some.inj ((show Tryd.prog.funcNamed "billet/billetlaw08.NatSums" = some 4 by kernel_rfl).symm.trans hf) |>.symm
      obtain rfl : fn = Tryd.f4 := (Option.some.inj (Tryd.func4.symm.trans hfn)).symm
      exact ⟨by kernel_rfl, fun j t ht => by
        rw [Tryd.params4] at ht
        have hm : t ∈ [43] := by simpa using Array.mem_of_getElem? ht
        have hall : ([43].all fun u => !Tryd.prog.wantsStandIn u) = true := by kernel_rfl
        exact (show Tryd.prog.wantsStandIn t = false by simpa using List.all_eq_true.1 hall t hm)⟩)
    (by kernel_rfl)
#print axioms natSums_holds

end Go.Proofs.YtcannnmpemnklaaDoor
