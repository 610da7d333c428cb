/- DeriveApart, for every two rows of texts: of at most 100 texts of at most 400 bytes together each, they have one pack of package derive just if they are the same: the law returns true, and nothing that was there has turned. Condition: the table of package sha holds what the text of the program lays there (tied). -/
import Derived.Test.YtkpindnekaijfaaDoorApart7
import Derived.Test.YtkpindnekaijfaaDoorLift
import Derived.Test.YtkpindnekaijfaaDoorOpenS
import Derived.Test.YtkpindnekaijfaaDoorLaid
import Derived.Test.YtkpindnekaijfaaDoorCards
import Derived.Test.YtkpindnekaijfaaDoorTie
import Derived.ChangeMaps5
import Derived.SevenTiedAt
import Derived.SizedLaws
import Derived.SliceStrings
namespace Go.Proofs.YtkpindnekaijfaaDoor
open Go.ChangeShapes Go.WideShapes Go.ChangeAt Go.RowKit

theorem deriveapart_door (os : Os) (args : Array Value) : laidMetH Tryd.prog [("billet/sha.constants", Rows.laid_billet_sha_constants)] ((World.doorLaid Tryd.prog 400 os).forCall (fun _ _ => 0) ⟨#[], args, []⟩).memory :=
  laidMetH_of_parts3 (fuel := 8) (laidMet_of_run' 8 (by kernel_rfl) (by kernel_rfl)) (by kernel_rfl) (by kernel_rfl)
set_option maxRecDepth 100000 in
theorem deriveapart_lifted (os : Os) (started : os.Started) (H : Type) (enc : TypeId × Value → H) :
    ReturnsInHanded {} Tryd.checked os 4 .any (fun w args => (Rows.deriveApartSpec.pre enc Tryd.prog Tryd.f4 [] false w args ∧ laidMetH Tryd.prog [("billet/sha.constants", Rows.laid_billet_sha_constants)] w) ∧ sizedMet enc Tryd.prog Tryd.f4 (OpenSpec.ofChange Rows.deriveApartSpec) false w args) (Rows.deriveApartSpec.post enc Tryd.prog Tryd.f4 false true false false) := by
  refine returnsInHanded_of_change_and (C := Tryd.checked) (X := fun w _ => laidMetH Tryd.prog [("billet/sha.constants", Rows.laid_billet_sha_constants)] w) (fun _ _ _ hh h => h.of_heap hh) Tryd.own started (by kernel_rfl) Tryd.func4
    (ChangeSpec.witness_shaped (enc := enc) (C := Tryd.checked) (os := os) (X := fun w _ => laidMetH Tryd.prog [("billet/sha.constants", Rows.laid_billet_sha_constants)] w) false (World.doorLaid Tryd.prog 400 os) #[.slice none 0 0, .slice none 0 0] 8 rfl (World.shaped_of_RefB (by kernel_rfl) (by kernel_rfl)) (by kernel_rfl) (by kernel_rfl) (by kernel_rfl) (deriveapart_door os _)) ?_
  intro W base args ds gs before hval0 hW _ hsz0 hL _
  have hval : ∀ (j : Nat) t v, Tryd.f4.params[j]? = some t → args[j]? = some v → Value.okWide Tryd.prog W .any base t v := hval0
  have hW' := hW
  obtain ⟨p, q, hA0, hV, rfl, hfz, hnd⟩ := hW
  have hA : DataW.TrodAll enc Tryd.prog W 0 (fun _ => true) true Tryd.f4.params.toList args.toList ds p := hA0
  have hsz : (DataW.weightsEach Tryd.prog (Tryd.f4.params.toList ++ Rows.deriveApartSpec.plain.varTypes Tryd.prog) (ds ++ gs)).all (· ≤ reachBytes) = true := hsz0
  rw [Tryd.params4] at hA hval hsz
  obtain ⟨v0, v1, d0, d1, p0, p1, rfl, rfl, rfl, h0_, h1_⟩ := trodAll_two hA
  obtain ⟨rfl, rfl⟩ := trodVars_none hV
  obtain ⟨Tg, fg, hg⟩ := tab_of hL (by kernel_rfl) (List.mem_singleton.2 rfl) (g := 0) (t := 76) (e := 23) (K := kTab) (by kernel_rfl) (by kernel_rfl) Tryd.underlying76 Tryd.underlying23 (by kernel_rfl) (by kernel_rfl) (by kernel_rfl) (by kernel_rfl)
  obtain ⟨p, Ps, cap, rfl, hP, hSa, hma⟩ := strs_param Tryd.underlying22 Tryd.underlying9 (by kernel_rfl) (hval 0 22 v0 rfl rfl) h0_
  obtain ⟨q, Qs, cap2, rfl, hQ, hSb, hmb⟩ := strs_param Tryd.underlying22 Tryd.underlying9 (by kernel_rfl) (hval 1 22 v1 rfl rfl) h1_
  obtain ⟨O1, hD1, hH1, hK1, hO1⟩ := tabO_of hg hSa
  obtain ⟨O, hD, hH, hsb, hO2⟩ := add_strs hD1 hH1 hSb
  have hK := hsb _ hK1
  have hO := hO1.mono hsb
  have hn : Ps.length < 9223372036854775808 := by simp only [maxLen] at hma; omega
  have hm : Qs.length < 9223372036854775808 := by simp only [maxLen] at hmb; omega
  by_cases hA : Ps.flatten.length > 400
  · skip
    refine (deriveapart_A O hD Tg fg hK Ps Qs p q cap cap2 hP hQ hn hm hO hO2 hA W hH).mono fun e W' ⟨he, hb⟩ => ?_
    subst he
    exact ⟨_, rfl, post_true Tryd.laidOut (by rw [Tryd.params4]; decide +kernel) rfl hW' rfl rfl rfl rfl Tryd.underlying4 hb⟩
  · skip
    by_cases hB : Qs.flatten.length > 400
    · skip
      refine (deriveapart_B O hD Tg fg hK Ps Qs p q cap cap2 hP hQ hn hm hO hO2 hA hB W hH).mono fun e W' ⟨he, hb⟩ => ?_
      subst he
      exact ⟨_, rfl, post_true Tryd.laidOut (by rw [Tryd.params4]; decide +kernel) rfl hW' rfl rfl rfl rfl Tryd.underlying4 hb⟩
    · skip
      by_cases hC : Ps.length > 100
      · skip
        refine (deriveapart_C O hD Tg fg hK Ps Qs p q cap cap2 hP hQ hn hm hO hO2 hA hB hC W hH).mono fun e W' ⟨he, hb⟩ => ?_
        subst he
        exact ⟨_, rfl, post_true Tryd.laidOut (by rw [Tryd.params4]; decide +kernel) rfl hW' rfl rfl rfl rfl Tryd.underlying4 hb⟩
      · skip
        by_cases hE : Qs.length > 100
        · skip
          refine (deriveapart_D O hD Tg fg hK Ps Qs p q cap cap2 hP hQ hn hm hO hO2 hA hB hC hE W hH).mono fun e W' ⟨he, hb⟩ => ?_
          subst he
          exact ⟨_, rfl, post_true Tryd.laidOut (by rw [Tryd.params4]; decide +kernel) rfl hW' rfl rfl rfl rfl Tryd.underlying4 hb⟩
        · skip
          by_cases hS : Ps = Qs
          · skip
            refine (deriveapart_S O hD Tg fg hK Ps Qs p q cap cap2 hP hQ hn hm hO hO2 hA hB hC hE hS W hH).mono fun e W' ⟨he, hb⟩ => ?_
            subst he
            exact ⟨_, rfl, post_true Tryd.laidOut (by rw [Tryd.params4]; decide +kernel) rfl hW' rfl rfl rfl rfl Tryd.underlying4 hb⟩
          · skip
            refine (deriveapart_N O hD Tg fg hK Ps Qs p q cap cap2 hP hQ hn hm hO hO2 hA hB hC hE hS W hH).mono fun e W' ⟨he, hb⟩ => ?_
            subst he
            exact ⟨_, rfl, post_true Tryd.laidOut (by rw [Tryd.params4]; decide +kernel) rfl hW' rfl rfl rfl rfl Tryd.underlying4 hb⟩

theorem deriveapart_row : Rows.DeriveApartSaid :=
  OpenClaim.holds_of_wide 4 Tryd.f4 rfl rfl rfl rfl rfl rfl rfl ⟨rfl, rfl, rfl, rfl, rfl⟩ rfl rfl rfl rfl rfl (by kernel_rfl) Tryd.func4 (by kernel_rfl)
    (of_decide_eq_true (by kernel_rfl)) (by unfold Func.isWrapper; first | (rw [if_pos (by decide +kernel)]; kernel_rfl) | (rw [if_neg (by decide +kernel)]; exact ⟨rfl, rfl⟩))
    (fun os started H enc _ => deriveapart_lifted os started H enc)
theorem deriveApart_holds : Rows.DeriveApartCardSaid :=
  Claim7.holds_tied_plain_at .later [] [.data] true (true, "69b863f9281f7484f0888d19628124832e40c528266a720a8642b1d9e1f90fe1") false
    deriveapart_row (fun _ h => by cases h) (by kernel_rfl) (fun _ h => by cases h) deriveApart_row_tie rfl ⟨rfl, rfl⟩ (by kernel_rfl) rfl
    (fun f fn hf hfn => by
      obtain rfl : f = 4 := Option.some.inj ((show Tryd.prog.funcNamed "billet/billetlaw07.DeriveApart" = some 4 by kernel_rfl).symm.trans hf) |>.symm
      obtain rfl : fn = Tryd.f4 := (Option.some.inj (Tryd.func4.symm.trans hfn)).symm
      exact ⟨by kernel_rfl, fun j t ht => by
        rw [Tryd.params4] at ht
        have hm : t ∈ [22, 22] := by simpa using Array.mem_of_getElem? ht
        have hall : ([22, 22].all fun u => !Tryd.prog.wantsStandIn u) = true := by kernel_rfl
        exact (show Tryd.prog.wantsStandIn t = false by simpa using List.all_eq_true.1 hall t hm)⟩)
    (by kernel_rfl)
#print axioms deriveApart_holds

end Go.Proofs.YtkpindnekaijfaaDoor
