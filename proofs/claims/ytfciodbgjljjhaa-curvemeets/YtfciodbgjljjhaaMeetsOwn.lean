/- CurveMeets, for every two secrets: each with the other one's public key, they come to one key by package curve's Shared, which tells no fault: the law returns true, and nothing that was there has turned; no condition. -/
import Derived.Test.YtfciodbgjljjhaaMeets
import Derived.Test.YtfciodbgjljjhaaMeetNum
import Derived.Test.YtfciodbgjljjhaaLift
namespace Go.Proofs.Ytfciodbgjljjhaa
open Go.ChangeShapes Go.WideShapes Go.ChangeAt Go.RowKit

theorem meets_any (ka kb : List Nat) (ha : Bytes ka) (hb : Bytes kb) (w : World) : Calls Try.prog 4 #[.agg (cs8 ka), .agg (cs8 kb)] w fun e w' => e = .returned (.bool true) ∧ Below w.heap.size w w' := by
  refine meets_raw ka kb ha hb _ _ (curveN ka (keyL (pubN kb))) rfl rfl rfl (curve_turns ka kb nine32 ha hb).symm ?_ w
  rw [keyL_eq_zero _ (curveN_lt _ _)]
  exact decide_eq_false (meets_nz ka kb ha hb)

set_option maxRecDepth 100000 in
theorem meets_lifted (os : Os) (started : os.Started) (H : Type) (enc : TypeId × Value → H) :
    ReturnsInHanded {} Try.checked os 4 .any (Rows.curveMeetsSpec.pre6 enc Try.prog Try.f4 Rows.curveMeetsRow.domain false) (Rows.curveMeetsSpec.post enc Try.prog Try.f4 false true false false) := by
  refine returnsInHanded_of_change (C := Try.checked) Try.own started (by kernel_rfl) Try.func4
    (ChangeSpec.witness6 (enc := enc) (C := Try.checked) false ⟨#[], #[.agg (cs8 (List.replicate 32 0)), .agg (cs8 (List.replicate 32 0))], []⟩ 8 (by kernel_rfl) (by kernel_rfl) (by kernel_rfl) (by kernel_rfl)) ?_
  intro W base args ds gs before hval0 hW hcnd _
  have hval : ∀ (j : Nat) t v, Try.f4.params[j]? = some t → args[j]? = some v → Value.okWide Try.prog W .any base t v := hval0
  have hW' := hW
  obtain ⟨p, q, hA0, hV, rfl, hfz, hnd⟩ := hW
  have hA : DataW.TrodAll enc Try.prog W 0 (fun _ => true) true Try.f4.params.toList args.toList ds p := hA0
  rw [Try.params4] at hA hval
  obtain ⟨v0, v1, d0, d1, p0, p1, rfl, rfl, rfl, h0, h1⟩ := trodAll_two hA
  obtain ⟨rfl, rfl⟩ := trodVars_none hV
  obtain ⟨k0, b0, rfl⟩ := open_key (hval 0 23 v0 rfl rfl) h0
  obtain ⟨k1, b1, rfl⟩ := open_key (hval 1 23 v1 rfl rfl) h1
  refine (meets_any k0 k1 b0 b1 W).mono fun e W' ⟨he, hb⟩ => ?_
  subst he
  exact ⟨_, rfl, post_true Try.laidOut (by rw [Try.params4]; decide +kernel) rfl hW' rfl rfl rfl rfl Try.underlying4 hb⟩

theorem curveMeets_holds : Rows.CurveMeetsSaid :=
  OpenClaim.holds_of_wide 4 Try.f4 rfl rfl rfl rfl rfl rfl rfl ⟨rfl, rfl, rfl, rfl, rfl⟩ rfl rfl rfl rfl rfl (by kernel_rfl) Try.func4 (by kernel_rfl)
    (of_decide_eq_true (by kernel_rfl)) (by unfold Func.isWrapper; first | (rw [if_pos (by decide +kernel)]; kernel_rfl) | (rw [if_neg (by decide +kernel)]; exact ⟨rfl, rfl⟩))
    (fun os started H enc _ => meets_lifted os started H enc)
#print axioms curveMeets_holds
end Go.Proofs.Ytfciodbgjljjhaa
