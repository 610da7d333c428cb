/- CurveTells, for every scalar and every point: what package curve's Mul, Public and Shared answer is what the document's answer says: the law returns true, and nothing that was there has turned; no condition. -/
import Derived.Test.YtfciodbgjljjhaaTells
import Derived.Test.YtfciodbgjljjhaaLift
namespace Go.Proofs.Ytfciodbgjljjhaa
open Go.ChangeShapes Go.WideShapes Go.ChangeAt Go.RowKit

theorem tells_any (ks us : List Nat) (bk : Bytes ks) (bu : Bytes us) (w : World) : Calls Try.prog 3 #[.agg (cs8 ks), .agg (cs8 us)] w fun e w' => e = .returned (.bool true) ∧ Below w.heap.size w w' := by
  cases h : (keyL (curveN ks us) == zero32) with
  | true => exact tells_weak ks us bk bu _ rfl h w
  | false => exact tells_ok ks us bk bu _ rfl h w

set_option maxRecDepth 100000 in
theorem tells_lifted (os : Os) (started : os.Started) (H : Type) (enc : TypeId × Value → H) :
    ReturnsInHanded {} Try.checked os 3 .any (Rows.curveTellsSpec.pre6 enc Try.prog Try.f3 Rows.curveTellsRow.domain false) (Rows.curveTellsSpec.post enc Try.prog Try.f3 false true false false) := by
  refine returnsInHanded_of_change (C := Try.checked) Try.own started (by kernel_rfl) Try.func3
    (ChangeSpec.witness6 (enc := enc) (C := Try.checked) false ⟨#[], #[.agg (cs8 (List.replicate 32 0)), .agg (cs8 (List.replicate 32 0))], []⟩ 8 (by kernel_rfl) (by kernel_rfl) (by kernel_rfl) (by kernel_rfl)) ?_
  intro W base args ds gs before hval0 hW hcnd _
  have hval : ∀ (j : Nat) t v, Try.f3.params[j]? = some t → args[j]? = some v → Value.okWide Try.prog W .any base t v := hval0
  have hW' := hW
  obtain ⟨p, q, hA0, hV, rfl, hfz, hnd⟩ := hW
  have hA : DataW.TrodAll enc Try.prog W 0 (fun _ => true) true Try.f3.params.toList args.toList ds p := hA0
  rw [Try.params3] at hA hval
  obtain ⟨v0, v1, d0, d1, p0, p1, rfl, rfl, rfl, h0, h1⟩ := trodAll_two hA
  obtain ⟨rfl, rfl⟩ := trodVars_none hV
  obtain ⟨k0, b0, rfl⟩ := open_key (hval 0 23 v0 rfl rfl) h0
  obtain ⟨k1, b1, rfl⟩ := open_key (hval 1 23 v1 rfl rfl) h1
  refine (tells_any k0 k1 b0 b1 W).mono fun e W' ⟨he, hb⟩ => ?_
  subst he
  exact ⟨_, rfl, post_true Try.laidOut (by rw [Try.params3]; decide +kernel) rfl hW' rfl rfl rfl rfl Try.underlying4 hb⟩

theorem curveTells_holds : Rows.CurveTellsSaid :=
  OpenClaim.holds_of_wide 3 Try.f3 rfl rfl rfl rfl rfl rfl rfl ⟨rfl, rfl, rfl, rfl, rfl⟩ rfl rfl rfl rfl rfl (by kernel_rfl) Try.func3 (by kernel_rfl)
    (of_decide_eq_true (by kernel_rfl)) (by unfold Func.isWrapper; first | (rw [if_pos (by decide +kernel)]; kernel_rfl) | (rw [if_neg (by decide +kernel)]; exact ⟨rfl, rfl⟩))
    (fun os started H enc _ => tells_lifted os started H enc)
#print axioms curveTells_holds
end Go.Proofs.Ytfciodbgjljjhaa
