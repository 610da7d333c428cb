/- DeriveJoins, for every label and two rows of texts: of a label of at most 200 bytes and at most 100 texts of at most 400 bytes together in each row, the pack of both, one behind the other, is their packs so, the name is the first sixteen bytes of the key, and the key is the digest of the pack of the label and of the others: the law returns true, and nothing that was there has turned. Condition: the table of package sha holds what the text of the program lays there (tied). -/
import Derived.Test.YtkpindnekaijfaaDoorJoins7
import Derived.Test.YtkpindnekaijfaaDoorLift
import Derived.Test.YtkpindnekaijfaaDoorOpenS
import Derived.Test.YtkpindnekaijfaaDoorLaid
import Derived.Test.YtkpindnekaijfaaDoorCards
import Derived.Test.YtkpindnekaijfaaDoorTie
import Derived.ChangeMaps5
import Derived.SevenTiedAt
import Derived.SizedLaws
import Derived.SliceStrings
namespace Go.Proofs.YtkpindnekaijfaaDoor
open Go.ChangeShapes Go.WideShapes Go.ChangeAt Go.RowKit

theorem derivejoins_door (os : Os) (args : Array Value) : laidMetH Tryd.prog [("billet/sha.constants", Rows.laid_billet_sha_constants)] ((World.doorLaid Tryd.prog 400 os).forCall (fun _ _ => 0) ⟨#[], args, []⟩).memory :=
  laidMetH_of_parts3 (fuel := 8) (laidMet_of_run' 8 (by kernel_rfl) (by kernel_rfl)) (by kernel_rfl) (by kernel_rfl)
set_option maxRecDepth 100000 in
theorem derivejoins_lifted (os : Os) (started : os.Started) (H : Type) (enc : TypeId × Value → H) :
    ReturnsInHanded {} Tryd.checked os 6 .any (fun w args => (Rows.deriveJoinsSpec.pre enc Tryd.prog Tryd.f6 [] false w args ∧ laidMetH Tryd.prog [("billet/sha.constants", Rows.laid_billet_sha_constants)] w) ∧ sizedMet enc Tryd.prog Tryd.f6 (OpenSpec.ofChange Rows.deriveJoinsSpec) false w args) (Rows.deriveJoinsSpec.post enc Tryd.prog Tryd.f6 false true false false) := by
  refine returnsInHanded_of_change_and (C := Tryd.checked) (X := fun w _ => laidMetH Tryd.prog [("billet/sha.constants", Rows.laid_billet_sha_constants)] w) (fun _ _ _ hh h => h.of_heap hh) Tryd.own started (by kernel_rfl) Tryd.func6
    (ChangeSpec.witness_shaped (enc := enc) (C := Tryd.checked) (os := os) (X := fun w _ => laidMetH Tryd.prog [("billet/sha.constants", Rows.laid_billet_sha_constants)] w) false (World.doorLaid Tryd.prog 400 os) #[.string (bs []), .slice none 0 0, .slice none 0 0] 8 rfl (World.shaped_of_RefB (by kernel_rfl) (by kernel_rfl)) (by kernel_rfl) (by kernel_rfl) (by kernel_rfl) (derivejoins_door os _)) ?_
  intro W base args ds gs before hval0 hW _ hsz0 hL _
  have hval : ∀ (j : Nat) t v, Tryd.f6.params[j]? = some t → args[j]? = some v → Value.okWide Tryd.prog W .any base t v := hval0
  have hW' := hW
  obtain ⟨p, q, hA0, hV, rfl, hfz, hnd⟩ := hW
  have hA : DataW.TrodAll enc Tryd.prog W 0 (fun _ => true) true Tryd.f6.params.toList args.toList ds p := hA0
  have hsz : (DataW.weightsEach Tryd.prog (Tryd.f6.params.toList ++ Rows.deriveJoinsSpec.plain.varTypes Tryd.prog) (ds ++ gs)).all (· ≤ reachBytes) = true := hsz0
  rw [Tryd.params6] at hA hval hsz
  obtain ⟨v0, v1, v2, d0, d1, d2, p0, p1, p2, rfl, rfl, rfl, h0_, h1_, h2_⟩ := trodAll_three hA
  obtain ⟨rfl, rfl⟩ := trodVars_none hV
  obtain ⟨Tg, fg, hg⟩ := tab_of hL (by kernel_rfl) (List.mem_singleton.2 rfl) (g := 0) (t := 76) (e := 23) (K := kTab) (by kernel_rfl) (by kernel_rfl) Tryd.underlying76 Tryd.underlying23 (by kernel_rfl) (by kernel_rfl) (by kernel_rfl) (by kernel_rfl)
  obtain ⟨sX, rfl, _, _, mX⟩ := Go.ChangeMaps.open_string Tryd.underlying9 (hval 0 9 v0 rfl rfl) h0_
  obtain ⟨X, hX, rfl⟩ : ∃ X : List Nat, (∀ i, X.getD i 0 < 256) ∧ sX = bs X := ⟨nl sX, nl_lt sX, (bs_nl sX).symm⟩
  obtain ⟨p, Ps, cap, rfl, hP, hSa, hma⟩ := strs_param Tryd.underlying22 Tryd.underlying9 (by kernel_rfl) (hval 1 22 v1 rfl rfl) h1_
  obtain ⟨q, Qs, cap2, rfl, hQ, hSb, hmb⟩ := strs_param Tryd.underlying22 Tryd.underlying9 (by kernel_rfl) (hval 2 22 v2 rfl rfl) h2_
  obtain ⟨O1, hD1, hH1, hK1, hO1⟩ := tabO_of hg hSa
  obtain ⟨O, hD, hH, hsb, hO2⟩ := add_strs hD1 hH1 hSb
  have hK := hsb _ hK1
  have hO := hO1.mono hsb
  have hn : Ps.length < 9223372036854775808 := by simp only [maxLen] at hma; omega
  have hm : Qs.length < 9223372036854775808 := by simp only [maxLen] at hmb; omega
  by_cases hZ : X.length > 200
  · skip
    refine (derivejoins_Z O hD Tg fg hK X hX Ps Qs p q cap cap2 hP hQ hn hm hO hO2 hZ W hH).mono fun e W' ⟨he, hb⟩ => ?_
    subst he
    exact ⟨_, rfl, post_true Tryd.laidOut (by rw [Tryd.params6]; decide +kernel) rfl hW' rfl rfl rfl rfl Tryd.underlying4 hb⟩
  · skip
    by_cases hA : Ps.flatten.length > 400
    · skip
      refine (derivejoins_A O hD Tg fg hK X hX Ps Qs p q cap cap2 hP hQ hn hm hO hO2 hZ hA W hH).mono fun e W' ⟨he, hb⟩ => ?_
      subst he
      exact ⟨_, rfl, post_true Tryd.laidOut (by rw [Tryd.params6]; decide +kernel) rfl hW' rfl rfl rfl rfl Tryd.underlying4 hb⟩
    · skip
      by_cases hB : Qs.flatten.length > 400
      · skip
        refine (derivejoins_B O hD Tg fg hK X hX Ps Qs p q cap cap2 hP hQ hn hm hO hO2 hZ hA hB W hH).mono fun e W' ⟨he, hb⟩ => ?_
        subst he
        exact ⟨_, rfl, post_true Tryd.laidOut (by rw [Tryd.params6]; decide +kernel) rfl hW' rfl rfl rfl rfl Tryd.underlying4 hb⟩
      · skip
        by_cases hC : Ps.length > 100
        · skip
          refine (derivejoins_C O hD Tg fg hK X hX Ps Qs p q cap cap2 hP hQ hn hm hO hO2 hZ hA hB hC W hH).mono fun e W' ⟨he, hb⟩ => ?_
          subst he
          exact ⟨_, rfl, post_true Tryd.laidOut (by rw [Tryd.params6]; decide +kernel) rfl hW' rfl rfl rfl rfl Tryd.underlying4 hb⟩
        · skip
          by_cases hE : Qs.length > 100
          · skip
            refine (derivejoins_D O hD Tg fg hK X hX Ps Qs p q cap cap2 hP hQ hn hm hO hO2 hZ hA hB hC hE W hH).mono fun e W' ⟨he, hb⟩ => ?_
            subst he
            exact ⟨_, rfl, post_true Tryd.laidOut (by rw [Tryd.params6]; decide +kernel) rfl hW' rfl rfl rfl rfl Tryd.underlying4 hb⟩
          · skip
            refine (derivejoins_S O hD Tg fg hK X hX Ps Qs p q cap cap2 hP hQ hn hm hO hO2 hZ hA hB hC hE W hH).mono fun e W' ⟨he, hb⟩ => ?_
            subst he
            exact ⟨_, rfl, post_true Tryd.laidOut (by rw [Tryd.params6]; decide +kernel) rfl hW' rfl rfl rfl rfl Tryd.underlying4 hb⟩

theorem derivejoins_row : Rows.DeriveJoinsSaid :=
  OpenClaim.holds_of_wide 6 Tryd.f6 rfl rfl rfl rfl rfl rfl rfl ⟨rfl, rfl, rfl, rfl, rfl⟩ rfl rfl rfl rfl rfl (by kernel_rfl) Tryd.func6 (by kernel_rfl)
    (of_decide_eq_true (by kernel_rfl)) (by unfold Func.isWrapper; first | (rw [if_pos (by decide +kernel)]; kernel_rfl) | (rw [if_neg (by decide +kernel)]; exact ⟨rfl, rfl⟩))
    (fun os started H enc _ => derivejoins_lifted os started H enc)
theorem deriveJoins_holds : Rows.DeriveJoinsCardSaid :=
  Claim7.holds_tied_plain_at .later [] [.data] true (true, "69b863f9281f7484f0888d19628124832e40c528266a720a8642b1d9e1f90fe1") false
    derivejoins_row (fun _ h => by cases h) (by kernel_rfl) (fun _ h => by cases h) deriveJoins_row_tie rfl ⟨rfl, rfl⟩ (by kernel_rfl) rfl
    (fun f fn hf hfn => by
      obtain rfl : f = 6 := Option.some.inj ((show Tryd.prog.funcNamed "billet/billetlaw07.DeriveJoins" = some 6 by kernel_rfl).symm.trans hf) |>.symm
      obtain rfl : fn = Tryd.f6 := (Option.some.inj (Tryd.func6.symm.trans hfn)).symm
      exact ⟨by kernel_rfl, fun j t ht => by
        rw [Tryd.params6] at ht
        have hm : t ∈ [9, 22, 22] := by simpa using Array.mem_of_getElem? ht
        have hall : ([9, 22, 22].all fun u => !Tryd.prog.wantsStandIn u) = true := by kernel_rfl
        exact (show Tryd.prog.wantsStandIn t = false by simpa using List.all_eq_true.1 hall t hm)⟩)
    (by kernel_rfl)
#print axioms deriveJoins_holds

end Go.Proofs.YtkpindnekaijfaaDoor
