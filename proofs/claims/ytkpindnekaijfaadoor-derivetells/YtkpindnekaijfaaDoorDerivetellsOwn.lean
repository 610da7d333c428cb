/- DeriveTells, for every label, row of texts, number and round: the packs, keys, names, rounds and nonces of package derive are those that the answer of the document says, for a label of at most 200 bytes and at most 100 texts of at most 400 bytes together, and the row of texts is as it was: the law returns true, and nothing that was there has turned. Condition: the table of package sha holds what the text of the program lays there (tied). -/
import Derived.Test.YtkpindnekaijfaaDoorTells7
import Derived.Test.YtkpindnekaijfaaDoorLift
import Derived.Test.YtkpindnekaijfaaDoorOpenS
import Derived.Test.YtkpindnekaijfaaDoorLaid
import Derived.Test.YtkpindnekaijfaaDoorCards
import Derived.Test.YtkpindnekaijfaaDoorTie
import Derived.ChangeMaps5
import Derived.SevenTiedAt
import Derived.SizedLaws
import Derived.SliceStrings
namespace Go.Proofs.YtkpindnekaijfaaDoor
open Go.ChangeShapes Go.WideShapes Go.ChangeAt Go.RowKit

theorem derivetells_door (os : Os) (args : Array Value) : laidMetH Tryd.prog [("billet/sha.constants", Rows.laid_billet_sha_constants)] ((World.doorLaid Tryd.prog 400 os).forCall (fun _ _ => 0) ⟨#[], args, []⟩).memory :=
  laidMetH_of_parts3 (fuel := 8) (laidMet_of_run' 8 (by kernel_rfl) (by kernel_rfl)) (by kernel_rfl) (by kernel_rfl)
theorem tells_open {H : Type} {enc : TypeId × Value → H} {W : World} {r : Reach} {base base' : Nat} {spare : Nat → Bool} {held : Bool} {v : Value} {d : DataW H} {p : List MemPlace} (hv : Value.okWide Tryd.prog W r base 26 v) (h : DataW.Trod enc Tryd.prog W base' spare held 26 v d p) :
    ∃ (cp : Array Value) (X : List Nat) (p : Option Addr) (Ps : List (List Nat)) (cap : Nat) (a : Nat) (r : Nat), v = .agg cp ∧ (∀ i, X.getD i 0 < 256) ∧ cp[0]? = some (.string (bs X)) ∧ X.length ≤ maxLen ∧ (∀ X ∈ Ps, ∀ i, X.getD i 0 < 256) ∧ cp[1]? = some (.slice p Ps.length cap) ∧ StrsIn W p Ps ∧ Ps.length ≤ maxLen ∧ a < 4294967296 ∧ cp[2]? = some (.int .u32 (a : Nat)) ∧ r < 18446744073709551616 ∧ cp[3]? = some (.int .u64 (r : Nat)) := by
  have hv' : ∃ cs, v = .agg cs := by
    simp only [Value.okWide, Tryd.underlying26] at hv
    obtain ⟨cs, h1, _⟩ := hv
    exact ⟨cs, h1⟩
  obtain ⟨cs, rfl⟩ := hv'
  obtain ⟨fuel, hf⟩ := h
  obtain ⟨xs, m, _, _, hl, hlen, hel⟩ := DataW.trod_struct Tryd.underlying26 hf
  have hx : xs.length = 4 := hlen
  have g : ∀ i, i < 4 → xs[i]? = some (xs[i]?.getD (.agg [], [])) := fun i hi => by simp [hx, hi]
  have e0 : DataW.trod enc Tryd.prog W base' spare held m 9 (List.take (Tryd.prog.cellsOf 9) (List.drop 0 (Value.agg cs).cells.toList)) = xs[0]? := hel 0 _ rfl
  rw [show Tryd.prog.cellsOf 9 = 1 by kernel_rfl, g 0 (by omega)] at e0
  obtain ⟨s0, q0, _, m0⟩ := DataW.trod_string Tryd.underlying9 e0
  have e1 : DataW.trod enc Tryd.prog W base' spare held m 22 (List.take (Tryd.prog.cellsOf 22) (List.drop 1 (Value.agg cs).cells.toList)) = xs[1]? := hel 1 _ rfl
  rw [show Tryd.prog.cellsOf 22 = 1 by kernel_rfl, g 1 (by omega)] at e1
  obtain ⟨p, Ps, cap, q1, hb1, hs1, hm1⟩ := strs_cells Tryd.underlying22 Tryd.underlying9 (by kernel_rfl) e1
  have e2 : DataW.trod enc Tryd.prog W base' spare held m 23 (List.take (Tryd.prog.cellsOf 23) (List.drop 2 (Value.agg cs).cells.toList)) = xs[2]? := hel 2 _ rfl
  rw [show Tryd.prog.cellsOf 23 = 1 by kernel_rfl, g 2 (by omega)] at e2
  obtain ⟨z2, q2, _, w2⟩ := DataW.trod_int Tryd.underlying23 e2
  have bb2 := bounds_u32 w2
  obtain ⟨a, rfl⟩ := Int.eq_ofNat_of_zero_le bb2.1
  have e3 : DataW.trod enc Tryd.prog W base' spare held m 24 (List.take (Tryd.prog.cellsOf 24) (List.drop 3 (Value.agg cs).cells.toList)) = xs[3]? := hel 3 _ rfl
  rw [show Tryd.prog.cellsOf 24 = 1 by kernel_rfl, g 3 (by omega)] at e3
  obtain ⟨z3, q3, _, w3⟩ := DataW.trod_int Tryd.underlying24 e3
  have bb3 := bounds_u64 w3
  obtain ⟨r, rfl⟩ := Int.eq_ofNat_of_zero_le bb3.1
  exact ⟨cs, nl s0, p, Ps, cap, a, r, rfl, nl_lt s0, (by rw [bs_nl]; have h3 := congrArg (fun l => l[0]?) q0; simpa [Value.cells] using h3), (by rw [nl_len]; exact m0), hb1, (by have h3 := congrArg (fun l => l[0]?) q1; simpa [Value.cells] using h3), hs1, hm1, (by have := bb2.2; omega), (by have h3 := congrArg (fun l => l[0]?) q2; simpa [Value.cells] using h3), (by have := bb3.2; omega), (by have h3 := congrArg (fun l => l[0]?) q3; simpa [Value.cells] using h3)⟩
set_option maxRecDepth 100000 in
theorem derivetells_lifted (os : Os) (started : os.Started) (H : Type) (enc : TypeId × Value → H) :
    ReturnsInHanded {} Tryd.checked os 3 .any (fun w args => (Rows.deriveTellsSpec.pre enc Tryd.prog Tryd.f3 [] false w args ∧ laidMetH Tryd.prog [("billet/sha.constants", Rows.laid_billet_sha_constants)] w) ∧ sizedMet enc Tryd.prog Tryd.f3 (OpenSpec.ofChange Rows.deriveTellsSpec) false w args) (Rows.deriveTellsSpec.post enc Tryd.prog Tryd.f3 false true false false) := by
  refine returnsInHanded_of_change_and (C := Tryd.checked) (X := fun w _ => laidMetH Tryd.prog [("billet/sha.constants", Rows.laid_billet_sha_constants)] w) (fun _ _ _ hh h => h.of_heap hh) Tryd.own started (by kernel_rfl) Tryd.func3
    (ChangeSpec.witness_shaped (enc := enc) (C := Tryd.checked) (os := os) (X := fun w _ => laidMetH Tryd.prog [("billet/sha.constants", Rows.laid_billet_sha_constants)] w) false (World.doorLaid Tryd.prog 400 os) #[.agg #[.string (bs []), .slice none 0 0, .int .u32 0, .int .u64 0]] 8 rfl (World.shaped_of_RefB (by kernel_rfl) (by kernel_rfl)) (by kernel_rfl) (by kernel_rfl) (by kernel_rfl) (derivetells_door os _)) ?_
  intro W base args ds gs before hval0 hW _ hsz0 hL _
  have hval : ∀ (j : Nat) t v, Tryd.f3.params[j]? = some t → args[j]? = some v → Value.okWide Tryd.prog W .any base t v := hval0
  have hW' := hW
  obtain ⟨p, q, hA0, hV, rfl, hfz, hnd⟩ := hW
  have hA : DataW.TrodAll enc Tryd.prog W 0 (fun _ => true) true Tryd.f3.params.toList args.toList ds p := hA0
  have hsz : (DataW.weightsEach Tryd.prog (Tryd.f3.params.toList ++ Rows.deriveTellsSpec.plain.varTypes Tryd.prog) (ds ++ gs)).all (· ≤ reachBytes) = true := hsz0
  rw [Tryd.params3] at hA hval hsz
  obtain ⟨v0, d0, rfl, rfl, h0_⟩ := trodAll_one hA
  obtain ⟨rfl, rfl⟩ := trodVars_none hV
  obtain ⟨Tg, fg, hg⟩ := tab_of hL (by kernel_rfl) (List.mem_singleton.2 rfl) (g := 0) (t := 76) (e := 23) (K := kTab) (by kernel_rfl) (by kernel_rfl) Tryd.underlying76 Tryd.underlying23 (by kernel_rfl) (by kernel_rfl) (by kernel_rfl) (by kernel_rfl)
  obtain ⟨cp, X, p, Ps, cap, a, r, rfl, hX, c0, _, hP, c1, hS, hm, ha, c2, hr, c3⟩ := tells_open (hval 0 26 v0 rfl rfl) h0_
  obtain ⟨O, hD, hH, hK, hO⟩ := tabO_of hg hS
  have hn : Ps.length < 9223372036854775808 := by simp only [maxLen] at hm; omega
  by_cases hA : X.length > 200
  · skip
    refine (derivetells_A O hD Tg fg hK cp X p Ps cap a r hX hP hn hO ha hr c0 c1 c2 c3 hA W hH).mono fun e W' ⟨he, hb⟩ => ?_
    subst he
    exact ⟨_, rfl, post_true Tryd.laidOut (by rw [Tryd.params3]; decide +kernel) rfl hW' rfl rfl rfl rfl Tryd.underlying4 hb⟩
  · skip
    by_cases hB : Ps.flatten.length > 400
    · skip
      refine (derivetells_B O hD Tg fg hK cp X p Ps cap a r hX hP hn hO ha hr c0 c1 c2 c3 hA hB W hH).mono fun e W' ⟨he, hb⟩ => ?_
      subst he
      exact ⟨_, rfl, post_true Tryd.laidOut (by rw [Tryd.params3]; decide +kernel) rfl hW' rfl rfl rfl rfl Tryd.underlying4 hb⟩
    · skip
      by_cases hC : Ps.length > 100
      · skip
        refine (derivetells_C O hD Tg fg hK cp X p Ps cap a r hX hP hn hO ha hr c0 c1 c2 c3 hA hB hC W hH).mono fun e W' ⟨he, hb⟩ => ?_
        subst he
        exact ⟨_, rfl, post_true Tryd.laidOut (by rw [Tryd.params3]; decide +kernel) rfl hW' rfl rfl rfl rfl Tryd.underlying4 hb⟩
      · skip
        refine (derivetells_D O hD Tg fg hK cp X p Ps cap a r hX hP hn hO ha hr c0 c1 c2 c3 hA hB hC W hH).mono fun e W' ⟨he, hb⟩ => ?_
        subst he
        exact ⟨_, rfl, post_true Tryd.laidOut (by rw [Tryd.params3]; decide +kernel) rfl hW' rfl rfl rfl rfl Tryd.underlying4 hb⟩

theorem derivetells_row : Rows.DeriveTellsSaid :=
  OpenClaim.holds_of_wide 3 Tryd.f3 rfl rfl rfl rfl rfl rfl rfl ⟨rfl, rfl, rfl, rfl, rfl⟩ rfl rfl rfl rfl rfl (by kernel_rfl) Tryd.func3 (by kernel_rfl)
    (of_decide_eq_true (by kernel_rfl)) (by unfold Func.isWrapper; first | (rw [if_pos (by decide +kernel)]; kernel_rfl) | (rw [if_neg (by decide +kernel)]; exact ⟨rfl, rfl⟩))
    (fun os started H enc _ => derivetells_lifted os started H enc)
theorem deriveTells_holds : Rows.DeriveTellsCardSaid :=
  Claim7.holds_tied_plain_at .later [] [.data] true (true, "69b863f9281f7484f0888d19628124832e40c528266a720a8642b1d9e1f90fe1") false
    derivetells_row (fun _ h => by cases h) (by kernel_rfl) (fun _ h => by cases h) deriveTells_row_tie rfl ⟨rfl, rfl⟩ (by kernel_rfl) rfl
    (fun f fn hf hfn => by
      obtain rfl : f = 3 := Option.some.inj ((show Tryd.prog.funcNamed "billet/billetlaw07.DeriveTells" = some 3 by kernel_rfl).symm.trans hf) |>.symm
      obtain rfl : fn = Tryd.f3 := (Option.some.inj (Tryd.func3.symm.trans hfn)).symm
      exact ⟨by kernel_rfl, fun j t ht => by
        rw [Tryd.params3] at ht
        have hm : t ∈ [26] := by simpa using Array.mem_of_getElem? ht
        have hall : ([26].all fun u => !Tryd.prog.wantsStandIn u) = true := by kernel_rfl
        exact (show Tryd.prog.wantsStandIn t = false by simpa using List.all_eq_true.1 hall t hm)⟩)
    (by kernel_rfl)
#print axioms deriveTells_holds

end Go.Proofs.YtkpindnekaijfaaDoor
