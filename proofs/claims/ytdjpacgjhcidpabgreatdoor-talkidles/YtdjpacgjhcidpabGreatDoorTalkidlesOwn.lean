/- TalkIdles, for every text and every round: what is idly said with a tape of at most 200 bytes is a request of the name that the tape gives first, and a box that the next key opens, to noughts; 48 bytes are used: the law returns true, and nothing that was there has turned. Condition: the table of package sha holds what the text of the program lays there (tied). -/
import Derived.Test.YtdjpacgjhcidpabGreatDoorZ8
import Derived.Test.YtdjpacgjhcidpabGreatDoorZ3
import Derived.Test.YtdjpacgjhcidpabGreatDoorZ2
import Derived.SliceStrings
import Derived.Test.YtdjpacgjhcidpabGreatDoorCards
import Derived.Test.YtdjpacgjhcidpabGreatDoorTie
import Derived.ChangeMaps5
import Derived.SevenTiedAt
import Derived.SizedLaws
namespace Go.Proofs.YtdjpacgjhcidpabGreatDoor
open Go.ChangeShapes Go.WideShapes Go.ChangeAt Go.RowKit
theorem talkidles_door (os : Os) (args : Array Value) : laidMetH Tryz.prog [("billet/sha.constants", Rows.laid_billet_sha_constants)] ((World.doorLaid Tryz.prog 400 os).forCall (fun _ _ => 0) ⟨#[], args, []⟩).memory :=
  laidMetH_of_parts3 (fuel := 8) (laidMet_of_run' 8 (by kernel_rfl) (by kernel_rfl)) (by kernel_rfl) (by kernel_rfl)
set_option maxRecDepth 100000 in
theorem talkidles_lifted (os : Os) (started : os.Started) (H : Type) (enc : TypeId × Value → H) :
    ReturnsInHanded {} Tryz.checked os 5 .any (fun w args => (Rows.talkIdlesSpec.pre enc Tryz.prog Tryz.f5 [] false w args ∧ laidMetH Tryz.prog [("billet/sha.constants", Rows.laid_billet_sha_constants)] w) ∧ sizedMet enc Tryz.prog Tryz.f5 (OpenSpec.ofChange Rows.talkIdlesSpec) false w args) (Rows.talkIdlesSpec.post enc Tryz.prog Tryz.f5 false true false false) := by
  refine returnsInHanded_of_change_and (C := Tryz.checked) (X := fun w _ => laidMetH Tryz.prog [("billet/sha.constants", Rows.laid_billet_sha_constants)] w) (fun _ _ _ hh h => h.of_heap hh) Tryz.own started (by kernel_rfl) Tryz.func5
    (ChangeSpec.witness_shaped (enc := enc) (C := Tryz.checked) (os := os) (X := fun w _ => laidMetH Tryz.prog [("billet/sha.constants", Rows.laid_billet_sha_constants)] w) false (World.doorLaid Tryz.prog 400 os) #[.string (bs []), .int .u64 0] 8 rfl (World.shaped_of_RefB (by kernel_rfl) (by kernel_rfl)) (by kernel_rfl) (by kernel_rfl) (by kernel_rfl) (talkidles_door os _)) ?_
  intro W base args ds gs before hval0 hW _ hsz0 hL _
  have hval : ∀ (j : Nat) t v, Tryz.f5.params[j]? = some t → args[j]? = some v → Value.okWide Tryz.prog W .any base t v := hval0
  have hW' := hW
  obtain ⟨p, q, hA0, hV, rfl, hfz, hnd⟩ := hW
  have hA : DataW.TrodAll enc Tryz.prog W 0 (fun _ => true) true Tryz.f5.params.toList args.toList ds p := hA0
  have hsz : (DataW.weightsEach Tryz.prog (Tryz.f5.params.toList ++ Rows.talkIdlesSpec.plain.varTypes Tryz.prog) (ds ++ gs)).all (· ≤ reachBytes) = true := hsz0
  rw [Tryz.params5] at hA hval hsz
  obtain ⟨v0, v1, d0, d1, p0, p1, rfl, rfl, rfl, h0_, h1_⟩ := trodAll_two hA
  obtain ⟨rfl, rfl⟩ := trodVars_none hV
  obtain ⟨Tg, fg, hg⟩ := tab_of hL (by kernel_rfl) (List.mem_singleton.2 rfl) (g := 0) (t := 188) (e := 58) (K := kTab) (by kernel_rfl) (by kernel_rfl) Tryz.underlying188 Tryz.underlying58 (by kernel_rfl) (by kernel_rfl) (by kernel_rfl) (by kernel_rfl)
  obtain ⟨sT, rfl, _, _, mT⟩ := Go.ChangeMaps.open_string Tryz.underlying9 (hval 0 9 v0 rfl rfl) h0_
  obtain ⟨T, hT, rfl⟩ : ∃ X : List Nat, (∀ i, X.getD i 0 < 256) ∧ sT = bs X := ⟨nl sT, nl_lt sT, (bs_nl sT).symm⟩
  obtain ⟨zr, rfl, _, _, wr⟩ := open_int Tryz.underlying24 (hval 1 24 v1 rfl rfl) h1_
  have br := bounds_u64 wr
  obtain ⟨r, rfl⟩ := Int.eq_ofNat_of_zero_le br.1
  have hr : r < 18446744073709551616 := by have := br.2; omega
  by_cases a1 : T.length > 200
  · skip
    refine (idles_long Tg fg T r hT hr a1 W hg).mono fun e W' ⟨he, hb⟩ => ?_
    subst he
    exact ⟨_, rfl, post_true Tryz.laidOut (by rw [Tryz.params5]; decide +kernel) rfl hW' rfl rfl rfl rfl Tryz.underlying4 hb⟩
  · skip
    refine (idles_short Tg fg T r hT hr a1 W hg).mono fun e W' ⟨he, hb⟩ => ?_
    subst he
    exact ⟨_, rfl, post_true Tryz.laidOut (by rw [Tryz.params5]; decide +kernel) rfl hW' rfl rfl rfl rfl Tryz.underlying4 hb⟩
theorem talkidles_row : Rows.TalkIdlesSaid :=
  OpenClaim.holds_of_wide 5 Tryz.f5 rfl rfl rfl rfl rfl rfl rfl ⟨rfl, rfl, rfl, rfl, rfl⟩ rfl rfl rfl rfl rfl (by kernel_rfl) Tryz.func5 (by kernel_rfl)
    (of_decide_eq_true (by kernel_rfl)) (by unfold Func.isWrapper; first | (rw [if_pos (by decide +kernel)]; kernel_rfl) | (rw [if_neg (by decide +kernel)]; exact ⟨rfl, rfl⟩))
    (fun os started H enc _ => talkidles_lifted os started H enc)
theorem talkIdles_holds : Rows.TalkIdlesCardSaid :=
  Claim7.holds_tied_plain_at .later [] [.data] true (true, "fc456aaa259d8cbacc7ba3098271fa933a2e0d7e2aad6da6a19a81d0bedb8867") false
    talkidles_row (fun _ h => by cases h) (by kernel_rfl) (fun _ h => by cases h) talkIdles_row_tie rfl ⟨rfl, rfl⟩ (by kernel_rfl) rfl
    (fun f fn hf hfn => by
      obtain rfl : f = 5 := Option.some.inj ((show Tryz.prog.funcNamed "billet/billetlaw16.TalkIdles" = some 5 by kernel_rfl).symm.trans hf) |>.symm
      obtain rfl : fn = Tryz.f5 := (Option.some.inj (Tryz.func5.symm.trans hfn)).symm
      exact ⟨by kernel_rfl, fun j t ht => by
        rw [Tryz.params5] at ht
        have hm : t ∈ [9, 24] := by simpa using Array.mem_of_getElem? ht
        have hall : ([9, 24].all fun u => !Tryz.prog.wantsStandIn u) = true := by kernel_rfl
        exact (show Tryz.prog.wantsStandIn t = false by simpa using List.all_eq_true.1 hall t hm)⟩)
    (by kernel_rfl)
#print axioms talkIdles_holds
end Go.Proofs.YtdjpacgjhcidpabGreatDoor
